/-
  package flat: programs in memory; isFormed BY CONTRACT.
-/
import Derived.Test.YtpkgingjmgakbaaDoorP17
import Derived.Test.YtpkgingjmgakbaaDoorP19
import Derived.LaidEqlPtr
namespace Go.Proofs.YtpkgingjmgakbaaDoor
open Go.RowKit Go.Maps

/-- A flow: its name, its kind, its term. -/
structure Fw where
  name : ByteArray
  kind : Int
  e : Ex
/-- Flows in memory. -/
inductive FlIn (w : World) (S : Nat → Prop) : List Fw → List Value → Prop
  | nil : FlIn w S [] []
  | cons (name : ByteArray) (kind : Int) (e : Ex) (fs : List Fw) (xs ys : List Value) : ExIn w S [e] xs → FlIn w S fs ys → FlIn w S (⟨name, kind, e⟩ :: fs) (.string name :: .int .i64 kind :: xs ++ ys)
theorem FlIn.keep {w w' : World} {S S' : Nat → Prop} {fs : List Fw} {xs : List Value} (h : FlIn w S fs xs) (hs : Stays S S' w w') : FlIn w' S' fs xs := by
  induction h with
  | nil => exact .nil
  | cons name kind e fs xs ys h1 _ ih => exact .cons name kind e fs xs ys (h1.keep hs) ih
theorem FlIn.length {w : World} {S : Nat → Prop} {fs : List Fw} {xs : List Value} (h : FlIn w S fs xs) : xs.length = fs.length * 6 := by
  induction h with
  | nil => rfl
  | cons name kind e fs xs ys h1 _ ih =>
    have := h1.length
    simp only [List.length_cons, List.length_append, List.length_nil] at *
    omega
theorem FlIn.at {w : World} {S : Nat → Prop} {l : List Fw} {xs : List Value} (h : FlIn w S l xs) : ∀ {i : Nat} (hi : i < l.length), ∃ name kind op n s es o c ys, l[i] = ⟨name, kind, .mk op n s es⟩ ∧ xs[i * 6]? = some (.string name) ∧ xs[i * 6 + 1]? = some (.int .i64 kind) ∧ xs[i * 6 + 2]? = some (.string op) ∧ xs[i * 6 + 3]? = some (.int .i64 n) ∧ xs[i * 6 + 4]? = some (.string s) ∧ xs[i * 6 + 5]? = some (.slice o es.length c) ∧ RowAt w S 4 (.slice o es.length c) es.length ys ∧ ExIn w S es ys := by
  induction h with
  | nil => intro i hi; simp at hi
  | cons name kind e fs xs ys h1 _ ih =>
    intro i hi
    obtain ⟨op, n, s, es, o, c, zs, rfl, rfl, r1, r2⟩ := h1.one'
    cases i with
    | zero => exact ⟨name, kind, op, n, s, es, o, c, zs, rfl, rfl, rfl, rfl, rfl, rfl, rfl, r1, r2⟩
    | succ i =>
      obtain ⟨name', kind', op', n', s', es', o', c', zs', e, a0, a1, a2, a3, a4, a5, b1, b2⟩ := ih (i := i) (by simpa using hi)
      refine ⟨name', kind', op', n', s', es', o', c', zs', by simpa using e, ?_, ?_, ?_, ?_, ?_, ?_, b1, b2⟩
      · rw [show (i + 1) * 6 = i * 6 + 1 + 1 + 1 + 1 + 1 + 1 from by omega]; simpa using a0
      · rw [show (i + 1) * 6 + 1 = i * 6 + 1 + 1 + 1 + 1 + 1 + 1 + 1 from by omega]; simpa using a1
      · rw [show (i + 1) * 6 + 2 = i * 6 + 2 + 1 + 1 + 1 + 1 + 1 + 1 from by omega]; simpa using a2
      · rw [show (i + 1) * 6 + 3 = i * 6 + 3 + 1 + 1 + 1 + 1 + 1 + 1 from by omega]; simpa using a3
      · rw [show (i + 1) * 6 + 4 = i * 6 + 4 + 1 + 1 + 1 + 1 + 1 + 1 from by omega]; simpa using a4
      · rw [show (i + 1) * 6 + 5 = i * 6 + 5 + 1 + 1 + 1 + 1 + 1 + 1 from by omega]; simpa using a5
/-- A flat program: inputs and outputs (as names, of kinds), flows, asserts, checks. -/
structure Pg where
  ins : List Ex
  outs : List Ex
  fs : List Fw
  asserts : List Ex
  checks : List Ex
/-- A flat program in memory, by the cells of its value. -/
structure PgAt (w : World) (S : Nat → Prop) (p : Pg) (v1 v2 v3 v4 v5 : Value) : Prop where
  ins : RowAt w S 2 v1 p.ins.length (varCells p.ins)
  outs : RowAt w S 1 v2 p.outs.length (nameCells p.outs)
  fs : ∃ xs, RowAt w S 6 v3 p.fs.length xs ∧ FlIn w S p.fs xs
  asserts : ∃ xs, RowAt w S 4 v4 p.asserts.length xs ∧ ExIn w S p.asserts xs
  checks : ∃ xs, RowAt w S 4 v5 p.checks.length xs ∧ ExIn w S p.checks xs
theorem PgAt.keep {w w' : World} {S S' : Nat → Prop} {p : Pg} {v1 v2 v3 v4 v5 : Value} (h : PgAt w S p v1 v2 v3 v4 v5) (hs : Stays S S' w w') : PgAt w' S' p v1 v2 v3 v4 v5 := by
  obtain ⟨h1, h2, ⟨x3, h3, g3⟩, ⟨x4, h4, g4⟩, ⟨x5, h5, g5⟩⟩ := h
  exact ⟨h1.keep hs, h2.keep hs, ⟨x3, h3.keep hs, g3.keep hs⟩, ⟨x4, h4.keep hs, g4.keep hs⟩, ⟨x5, h5.keep hs, g5.keep hs⟩⟩
/-- May a term stand in a flat program, what is in its parts aside? -/
def formF (kd : List UInt8 → Option Int) (op : ByteArray) (n : Int) (s : ByteArray) (m : Nat) : Bool :=
  !(op.data.toList == lName && (kd s.data.toList).getD 0 == 0) && (op.data.toList != lCall && formedB op.toList n s.toList m)
theorem zero_getD (x : Option Int) : ((x.map (Value.int .i64)).getD (.int .i64 0)) = .int .i64 (x.getD 0) := by cases x <;> rfl
set_option maxRecDepth 100000 in
set_option maxHeartbeats 1000000 in
theorem isFormed_any (kd : List UInt8 → Option Int) (w : World) (K nK : Nat) (hK : FnAt w K nK (kindF kd)) (op : ByteArray) (n : Int) (s : ByteArray) (hs : s.size ≤ maxLen) (o : Option Addr) (m c : Nat) (hm : m ≤ maxLen) :
    Calls Tryd.prog 42 #[.agg #[.string op, .int .i64 n, .string s, .slice o m c], .map (some K)] w fun e w' => Below w.heap.size w w' ∧ e = .returned (.bool (formF kd op n s m)) := by
  obtain ⟨w1, hw1⟩ : ∃ w1, w1 = w.alloc (.cells #[.string op, .int .i64 n, .string s, .slice o m c] 32) := ⟨_, rfl⟩
  have hb1 : Below w.heap.size w w1 := by rw [hw1]; exact (Below.refl _ _).alloc (Nat.le_refl _) _
  have hk1 : FnAt w1 K nK (kindF kd) := hK.kept (hb1.block K hK.lt)
  have hlk := hk1.look1 Tryd.underlying54 (zero_int w1) s hs
  have e1 : (kindF kd s.data.toList).getD (.int .i64 0) = .int .i64 ((kd s.data.toList).getD 0) := zero_getD _
  rw [e1] at hlk
  obtain ⟨kk, hkk⟩ : ∃ kk, kk = (kd s.data.toList).getD 0 := ⟨_, rfl⟩
  rw [← hkk] at hlk
  have HFO : Hid (Calls Tryd.prog 51 #[.agg #[.string op, .int .i64 n, .string s, .slice o m c]] w1 fun e w' => Below w1.heap.size w1 w' ∧ e = .returned (.bool (formedB op.toList n s.toList m))) := formed_any op n s o m c w1 hm
  have HW1 : Hid (w.alloc (.cells #[.string op, .int .i64 n, .string s, .slice o m c] 32) = w1) := hw1.symm
  have hr1 : w1.heap[w.heap.size]? = some (.cells #[.string op, .int .i64 n, .string s, .slice o m c] 32 (0, 0)) := by rw [hw1]; exact heap_alloc_new _ _
  have c0 : w1.cell? ⟨w.heap.size, 0, none⟩ = some (.string op) := by rw [cell_of_row w1 _ _ _ _ (0, 0) hr1]; rfl
  have c1 : w1.cell? ⟨w.heap.size, 0 + 1, none⟩ = some (.int .i64 n) := by rw [cell_of_row w1 _ _ _ _ (0, 0) hr1]; rfl
  have c2 : w1.cell? ⟨w.heap.size, 0 + 2, none⟩ = some (.string s) := by rw [cell_of_row w1 _ _ _ _ (0, 0) hr1]; rfl
  have c3 : w1.cell? ⟨w.heap.size, 0 + 3, none⟩ = some (.slice o m c) := by rw [cell_of_row w1 _ _ _ _ (0, 0) hr1]; rfl
  have HB1 : Hid (Below w.heap.size w w1) := hb1
  have HF : Hid (formF kd op n s m = (!(op.data.toList == lName && kk == 0) && (op.data.toList != lCall && formedB op.toList n s.toList m))) := by unfold Hid formF; rw [← hkk]
  clear hK hs hm hb1 hk1 e1 hkk hr1 hw1
  by_cases hn : op.data.toList = lName
  · have dn : (op.toList == [110, 97, 109, 101]) = true := by rw [ByteArray.toList_eq, hn]; rfl
    have dc : (op.toList == [99, 97, 108, 108]) = false := by rw [ByteArray.toList_eq, hn]; rfl
    have dc' : (op.toList != [99, 97, 108, 108]) = true := by rw [ByteArray.toList_eq, hn]; rfl
    by_cases h0 : kk = 0
    · subst h0
      have HE : Hid (formF kd op n s m = false) := by unfold Hid; rw [HF.out, hn]; rfl
      clear hn
      go_enter Tryd.func42, Tryd.ntmps42
      go_upto_region 1 with fail
      rw [HW1.out]
      go_wp2
      exact bodyPost_ret (v := .bool false) (by simp [results, Tryd.results42, go_sem]) rfl ⟨HB1.out, by rw [HE.out]⟩
    · have d0 : (kk == 0) = false := beq_eq_false_iff_ne.2 h0
      have HE : Hid (formF kd op n s m = formedB op.toList n s.toList m) := by unfold Hid; rw [HF.out, hn, d0]; rfl
      obtain ⟨fb, hfb⟩ : ∃ fb, fb = formedB op.toList n s.toList m := ⟨_, rfl⟩
      rw [← hfb] at HE HFO
      clear hn hfb h0
      go_enter Tryd.func42, Tryd.ntmps42
      go_upto_region 1 with fail
      rw [HW1.out]
      go_wp2_with fail
      refine HFO.out.mono ?_
      rintro e w2 ⟨hb2, rfl⟩
      have HB2 : Hid (Below w.heap.size w w2) := HB1.out.trans (hb2.mono HB1.out.size)
      clear hb2 c0 c1 c2 c3
      go_wp2
      exact bodyPost_ret (v := .bool fb) (by simp [results, Tryd.results42, go_sem]) rfl ⟨HB2.out, by rw [HE.out]⟩
  · have dn : (op.toList == [110, 97, 109, 101]) = false := by rw [ByteArray.toList_eq]; exact beq_eq_false_iff_ne.2 hn
    have hnl : (op.data.toList == lName) = false := beq_eq_false_iff_ne.2 hn
    by_cases hc : op.data.toList = lCall
    · have dc : (op.toList == [99, 97, 108, 108]) = true := by rw [ByteArray.toList_eq, hc]; rfl
      have dc' : (op.toList != [99, 97, 108, 108]) = false := by rw [ByteArray.toList_eq, hc]; rfl
      have HE : Hid (formF kd op n s m = false) := by unfold Hid; rw [HF.out, hc]; rfl
      clear hn hnl hc
      go_enter Tryd.func42, Tryd.ntmps42
      go_upto_region 1 with fail
      rw [HW1.out]
      go_wp2
      exact bodyPost_ret (v := .bool false) (by simp [results, Tryd.results42, go_sem]) rfl ⟨HB1.out, by rw [HE.out]⟩
    · have dc : (op.toList == [99, 97, 108, 108]) = false := by rw [ByteArray.toList_eq]; exact beq_eq_false_iff_ne.2 hc
      have dc' : (op.toList != [99, 97, 108, 108]) = true := by unfold bne; rw [dc]; rfl
      have HE : Hid (formF kd op n s m = formedB op.toList n s.toList m) := by
        unfold Hid
        rw [HF.out, hnl]
        have : (op.data.toList != lCall) = true := bne_iff_ne.2 hc
        rw [this]
        rfl
      obtain ⟨fb, hfb⟩ : ∃ fb, fb = formedB op.toList n s.toList m := ⟨_, rfl⟩
      rw [← hfb] at HE HFO
      clear hn hfb hnl hc
      go_enter Tryd.func42, Tryd.ntmps42
      go_upto_region 1 with fail
      rw [HW1.out]
      go_wp2_with fail
      refine HFO.out.mono ?_
      rintro e w2 ⟨hb2, rfl⟩
      have HB2 : Hid (Below w.heap.size w w2) := HB1.out.trans (hb2.mono HB1.out.size)
      clear hb2 c0 c1 c2 c3
      go_wp2
      exact bodyPost_ret (v := .bool fb) (by simp [results, Tryd.results42, go_sem]) rfl ⟨HB2.out, by rw [HE.out]⟩
mutual
/-- A term that may stand in a flat program, all its parts too. -/
def fmE (kd : List UInt8 → Option Int) : Ex → Bool
  | .mk op n s l => formF kd op n s l.length && fmL kd l
def fmL (kd : List UInt8 → Option Int) : List Ex → Bool
  | [] => true
  | e :: es => fmE kd e && fmL kd es
end
end Go.Proofs.YtpkgingjmgakbaaDoor

/-
  package flat: what is formed is right for the types (mathematics).
-/
namespace Go.Proofs.YtpkgingjmgakbaaDoor
open Go.RowKit Go.Maps

mutual
/-- Texts that fit. -/
def smE : Ex → Prop
  | .mk op _ s l => op.size ≤ maxLen ∧ s.size ≤ maxLen ∧ smL l
def smL : List Ex → Prop
  | [] => True
  | e :: es => smE e ∧ smL es
end
theorem sign_shape : ∀ t ∈ shapeL, if t.1 = lName then t.2.2.length = 0 else (signRow t.1).any (fun q => q.1.length == t.2.2.length) = true := by decide
theorem formF_ok {kd : List UInt8 → Option Int} {op : ByteArray} {n : Int} {s : ByteArray} {l : List Ex} (h : formF kd op n s l.length = true) : op.data.toList ≠ lCall ∧ (if op.data.toList = lName then (∃ k, kd s.data.toList = some k) ∧ l = [] else ∃ tk gv, signRow op.data.toList = some (tk, gv) ∧ l.length = tk.length) := by
  unfold formF at h
  simp only [Bool.and_eq_true, Bool.not_eq_true', bne_iff_ne, ne_eq] at h
  obtain ⟨h1, h2, h3⟩ := h
  refine ⟨h2, ?_⟩
  rcases formedB_of h3 with hc | ⟨t, ht, e1, e2⟩
  · exact absurd (by rw [← ByteArray.toList_eq, hc]; rfl) h2
  · have hs := sign_shape t ht
    rw [← e1, ByteArray.toList_eq] at hs
    by_cases hn : op.data.toList = lName
    · rw [if_pos hn] at hs ⊢
      refine ⟨?_, List.eq_nil_of_length_eq_zero (by omega)⟩
      cases hk : kd s.data.toList with
      | none => rw [hk, hn] at h1; simp at h1
      | some k => exact ⟨k, rfl⟩
    · rw [if_neg hn] at hs ⊢
      cases hr : signRow op.data.toList with
      | none => rw [hr] at hs; simp at hs
      | some q =>
        rw [hr] at hs
        simp at hs
        exact ⟨q.1, q.2, rfl, by omega⟩
mutual
theorem fmE_ok {kd : List UInt8 → Option Int} : ∀ (e : Ex), fmE kd e = true → smE e → okE kd e
  | .mk op n s l, h, hs => by
    unfold fmE at h
    unfold smE at hs
    unfold okE
    rw [Bool.and_eq_true] at h
    have := formF_ok h.1
    exact ⟨hs.1, hs.2.1, this.1, this.2, fmL_ok l h.2 hs.2.2⟩
theorem fmL_ok {kd : List UInt8 → Option Int} : ∀ (l : List Ex), fmL kd l = true → smL l → okL kd l
  | [], _, _ => by unfold okL; trivial
  | e :: es, h, hs => by
    unfold fmL at h
    unfold smL at hs
    unfold okL
    rw [Bool.and_eq_true] at h
    exact ⟨fmE_ok e h.1 hs.1, fmL_ok es h.2 hs.2⟩
end
end Go.Proofs.YtpkgingjmgakbaaDoor

/-
  package flat: a map by places, found.
-/
namespace Go.Proofs.YtpkgingjmgakbaaDoor
open Go.RowKit Go.Maps

/-- A place in a block of cells. -/
def PlaceIn (w : World) (a : Addr) : Prop := ∃ cs t, w.heap[a.block]? = some (.cells cs t (0, 0))
theorem equal_place {P : Program} {w : World} {tp te : TypeId} {j : TypeInfo} {a b : Addr} (hp : P.underlying tp = some (.pointer te)) (hte : P.info? te = some j) (hsz : j.size ≠ 0) (ha : PlaceIn w a) (hb : PlaceIn w b) :
    (Op.equal tp (.pointer (some a)) (.pointer (some b))).run P w = .ok (decide (a = b)) w := by
  obtain ⟨ca, ta, ha⟩ := ha
  obtain ⟨cb, tb, hb⟩ := hb
  by_cases h : a = b
  · subst h
    have hh : ∀ d : Nat, (Op.equalIn (d + 1) tp (.pointer (some a)) (.pointer (some a))).run P w = .ok true w := fun d => by
      simp [Op.equalIn, run_underlying hp, sizeOf, typeInfo, hte, run_sameAddr_same]
    rw [decide_eq_true rfl]
    exact hh 9999
  · have hh : ∀ d : Nat, (Op.equalIn (d + 1) tp (.pointer (some a)) (.pointer (some b))).run P w = .ok false w := fun d => by
      simp [Op.equalIn, run_underlying hp, sizeOf, typeInfo, hte, hsz, run_sameAddr_other w h ha hb]
    rw [decide_eq_false h]
    exact hh 9999
/-- Entries by places. -/
def IsPlaces (w : World) (es : List MapEntry) : Prop := ∀ e ∈ es, ∃ a, e.key = .pointer (some a) ∧ PlaceIn w a
theorem findAsking_place {P : Program} {w : World} {tp te : TypeId} {j : TypeInfo} {x : Addr} (hp : P.underlying tp = some (.pointer te)) (hte : P.info? te = some j) (hsz : j.size ≠ 0) (hx : PlaceIn w x) : ∀ (es : List MapEntry) (i : Nat), IsPlaces w es →
    ((Instr.findAsking tp (.pointer (some x)) es i).run P w = .ok none w ∧ ∀ e ∈ es, e.key ≠ .pointer (some x)) ∨ ∃ k e, (Instr.findAsking tp (.pointer (some x)) es i).run P w = .ok (some (i + k, e.val)) w ∧ es[k]? = some e ∧ e.key = .pointer (some x)
  | [], i, _ => .inl ⟨by simp [Instr.findAsking], by simp⟩
  | e :: es, i, h => by
    obtain ⟨a, ea, pa⟩ := h e (List.mem_cons_self ..)
    have hq := equal_place (P := P) hp hte hsz hx pa
    rw [← ea] at hq
    by_cases hxa : x = a
    · right
      refine ⟨0, e, ?_, rfl, by rw [ea, hxa]⟩
      rw [decide_eq_true hxa] at hq
      simp [Instr.findAsking, hq]
    · rcases findAsking_place hp hte hsz hx es (i + 1) (fun e he => h e (List.mem_cons_of_mem _ he)) with ⟨h1, h2⟩ | ⟨k, e', h1, h2, h3⟩
      · left
        refine ⟨by simp [Instr.findAsking, hq, hxa, h1], fun e' he => ?_⟩
        rcases List.mem_cons.1 he with rfl | he
        · rw [ea]; intro hh; exact hxa (by simpa using hh.symm)
        · exact h2 e' he
      · right
        exact ⟨k + 1, e', by simp [Instr.findAsking, hq, hxa, h1]; omega, by simpa using h2, h3⟩
theorem findKey_place {P : Program} {w : World} {tp te : TypeId} {j : TypeInfo} {x : Addr} (hp : P.underlying tp = some (.pointer te)) (hte : P.info? te = some j) (hsz : j.size ≠ 0) (hx : PlaceIn w x) (es : List MapEntry) (h : IsPlaces w es) :
    ((Instr.findKey tp (.pointer (some x)) es).run P w = .ok none w ∧ ∀ e ∈ es, e.key ≠ .pointer (some x)) ∨ ∃ k e, (Instr.findKey tp (.pointer (some x)) es).run P w = .ok (some (k, e.val)) w ∧ es[k]? = some e ∧ e.key = .pointer (some x) := by
  cases es with
  | nil => exact .inl ⟨by simp [Instr.findKey, run_underlying hp, Instr.findNow], by simp⟩
  | cons e es =>
    have hnow : Instr.findNow (.pointer te) (.pointer (some x)) (e :: es) 0 = none := by simp [Instr.findNow, Instr.sameNow]
    rcases findAsking_place hp hte hsz hx (e :: es) 0 h with ⟨h1, h2⟩ | ⟨k, e', h1, h2, h3⟩
    · exact .inl ⟨by simp [Instr.findKey, run_underlying hp, hnow, h1], h2⟩
    · rw [Nat.zero_add] at h1
      exact .inr ⟨k, e', by simp [Instr.findKey, run_underlying hp, hnow, h1], h2, h3⟩
end Go.Proofs.YtpkgingjmgakbaaDoor
