/-
  package order: Order BY CONTRACT, of any flat program: an order, or the error.
-/
import Derived.Test.YtpkgingjmgakbaaDoorP39
import Derived.Test.YtpkgingjmgakbaaDoorP40
namespace Go.Proofs.YtpkgingjmgakbaaDoor
open Go.RowKit Go.Maps

theorem flatC_zero {p : Pg} (h : flatC p = 0) : ∃ kd, kRun (fun _ => none) (varsP p) = some kd ∧ outsB p = true ∧ fmL kd (termsP p) = true ∧ p.ins.length ≤ 30 ∧ p.fs.length ≤ 400 ∧ szL (termsP p) ≤ 4000 ∧ ∃ qs, tyL kd (termsP p) = some (kindsP p, qs) := by
  unfold flatC at h
  cases hk : kRun (fun _ => none) (varsP p) with
  | none => rw [hk] at h; simp at h
  | some kd =>
    rw [hk] at h
    simp only at h
    split at h
    · rename_i h1
      rw [Bool.and_eq_true] at h1
      split at h
      · omega
      · rename_i h2
        cases ht : tyL kd (termsP p) with
        | none => rw [ht] at h; simp at h
        | some q =>
          obtain ⟨ks, qs⟩ := q
          rw [ht] at h
          simp only at h
          split at h
          · rename_i h3
            exact ⟨kd, rfl, h1.1, h1.2, by omega, by omega, by omega, qs, by rw [ht, h3]⟩
          · omega
    · omega
theorem ndA_ndF {fs : List Fw} {i : Nat} {x : Fw} (h : fs[i]? = some x) : ndA (ndF fs) i = (onE x.e).filterMap (numN fs fs.length) := by
  unfold ndA ndF
  rw [List.getElem?_map, h]
  rfl
theorem tot_ndF (p : Pg) : ∀ i, i ≤ p.fs.length → tot (ndF p.fs) i ≤ szL ((termsP p).take i)
  | 0, _ => by simp [tot]
  | i + 1, h => by
    have ih := tot_ndF p i (by omega)
    have hi : p.fs[i]? = some p.fs[i] := List.getElem?_eq_getElem (by omega)
    have ht : (termsP p)[i]? = some p.fs[i].e := by
      unfold termsP
      rw [List.getElem?_append_left (by simp; omega), List.getElem?_map, hi]; rfl
    have h1 := szL_take _ _ _ ht
    have h2 := onE_len p.fs[i].e
    have h3 := List.length_filterMap_le (numN p.fs p.fs.length) (onE p.fs[i].e)
    simp only [tot]
    rw [ndA_ndF hi]
    omega
theorem flatC_tot {p : Pg} (h : flatC p = 0) : tot (ndF p.fs) (ndF p.fs).length ≤ 200000 := by
  obtain ⟨kd, _, _, _, _, _, h1, _⟩ := flatC_zero h
  have h2 := tot_ndF p p.fs.length (Nat.le_refl _)
  have h3 := szL_le (termsP p) p.fs.length
  rw [ndF_length]
  omega
theorem flatC_ar {p : Pg} (h : flatC p = 0) : arL (termsP p) := by
  obtain ⟨kd, _, _, h1, _⟩ := flatC_zero h
  exact fmL_ar _ h1
/-- The errors' values. -/
structure ErV where
  st : TypeId
  bt : TypeId
  tt : TypeId
  ct : TypeId
  ft : TypeId
  sq : Value
  bq : Value
  tq : Value
  cq : Value
  fq : Value
/-- A flat program in memory, and the errors. -/
structure PgG (w : World) (S : Nat → Prop) (p : Pg) (o1 o2 o3 o4 o5 : Option Addr) (c1 c2 c3 c4 c5 : Nat) (E : ErV) : Prop where
  pg : PgAt w S p (.slice o1 p.ins.length c1) (.slice o2 p.outs.length c2) (.slice o3 p.fs.length c3) (.slice o4 p.asserts.length c4) (.slice o5 p.checks.length c5)
  plain : Plain w S
  lt : ∀ b, S b → b < w.heap.size
  nil : p.ins.length = 0 → o1 = none ∧ c1 = 0
  ok : PgOk p
  e3 : E3 w E.st E.bt E.tt E.sq E.bq E.tq
  cyc : w.cell? ⟨0, 0, none⟩ = some (.iface E.ct E.cq)
  fst : w.cell? ⟨1, 0, none⟩ = some (.iface E.ft E.fq)
theorem PgG.keep {w w' : World} {S : Nat → Prop} {p : Pg} {o1 o2 o3 o4 o5 : Option Addr} {c1 c2 c3 c4 c5 : Nat} {E : ErV} (h : PgG w S p o1 o2 o3 o4 o5 c1 c2 c3 c4 c5 E) (hb : Below w.heap.size w w') : PgG w' S p o1 o2 o3 o4 o5 c1 c2 c3 c4 c5 E :=
  ⟨h.pg.keep (fun b hB hl => ⟨hB, hb.block b hl⟩), h.plain.keep hb (fun b hb _ => h.lt b hb), fun b hB => Nat.lt_of_lt_of_le (h.lt b hB) hb.size, h.nil, h.ok, h.e3.keep hb, cell_keep hb h.cyc, cell_keep hb h.fst⟩
/-- The error of Order. -/
def OErr (p : Pg) (E : ErV) (w' : World) (t : TypeId) (x : Value) : Prop :=
  (flatC p ≠ 0 ∧ Value.iface t x = errV (.iface E.st E.sq) (.iface E.bt E.bq) (.iface E.tt E.tq) (flatC p)) ∨
  (flatC p = 0 ∧ ∃ m b : Nat, t = 48 ∧ x = .pointer (some ⟨b, 0, none⟩) ∧ m < p.fs.length ∧ Rch (ndF p.fs) m m ∧ (∀ j, j < m → ¬ Rch (ndF p.fs) j j) ∧ w'.cell? ⟨b, 0, none⟩ = some (.int .i64 (m : Int)) ∧ w'.cell? ⟨b, 0 + 1, none⟩ = some (.iface E.ct E.cq))
theorem OErr.keep {p : Pg} {E : ErV} {w w' : World} {t : TypeId} {x : Value} (h : OErr p E w t x) (hb : Below w.heap.size w w') : OErr p E w' t x := by
  rcases h with h | ⟨h0, m, b, h1, h2, h3, h4, h5, h6, h7⟩
  · exact .inl h
  · exact .inr ⟨h0, m, b, h1, h2, h3, h4, h5, cell_keep hb h6, cell_keep hb h7⟩
/-- All flows have places. -/
def OOk (p : Pg) (d : List Nat) : Prop := flatC p = 0 ∧ Grd (ndF p.fs) d ∧ d.length = p.fs.length
/-- What Order answers. -/
def OrdR (p : Pg) (E : ErV) (base : Nat) (e : Ending) (w' : World) : Prop :=
  (∃ (d : List Nat) (o : Option Addr) (c : Nat), OOk p d ∧ e = .returned (.tuple #[.slice o d.length c, .nilIface]) ∧ w'.ownsRow base 3 1 (.slice o d.length c) d.length ((cI d).map (Value.int .i64))) ∨
  ∃ t x, OErr p E w' t x ∧ e = .returned (.tuple #[.slice none 0 0, .iface t x])
theorem errV_some {st bt tt : TypeId} {sq bq tq : Value} : ∀ {c : Nat}, c ≠ 0 → ∃ t x, errV (.iface st sq) (.iface bt bq) (.iface tt tq) c = .iface t x
  | 0, h => absurd rfl h
  | 1, _ => ⟨_, _, rfl⟩
  | 2, _ => ⟨_, _, rfl⟩
  | _ + 3, _ => ⟨_, _, rfl⟩
set_option maxRecDepth 100000 in
set_option maxHeartbeats 4000000 in
theorem order_all (w : World) (S : Nat → Prop) (p : Pg) (o1 o2 o3 o4 o5 : Option Addr) (c1 c2 c3 c4 c5 : Nat) (E : ErV) (h : PgG w S p o1 o2 o3 o4 o5 c1 c2 c3 c4 c5 E) :
    Calls Tryd.prog 6 #[.agg #[.slice o1 p.ins.length c1, .slice o2 p.outs.length c2, .slice o3 p.fs.length c3, .slice o4 p.asserts.length c4, .slice o5 p.checks.length c5]] w fun e w' => Below w.heap.size w w' ∧ OrdR p E w.heap.size e w' := by
  by_cases h0 : flatC p = 0
  · refine (order_any w S p o1 o2 o3 o4 o5 c1 c2 c3 c4 c5 h.pg h.plain h.lt h.nil h.ok _ _ _ _ _ _ h.e3 h0 (arL_fb _ (flatC_ar h0)) (flatC_tot h0) _ _ h.cyc).mono ?_
    rintro e w' ⟨hb, hr⟩
    refine ⟨hb, ?_⟩
    rcases hr with ⟨d, o, c, rfl, hG, hl, hown⟩ | ⟨m, b, rfl, h1, h2, h3, h4, h5⟩
    · rw [ndF_length] at hl
      exact .inl ⟨d, o, c, ⟨h0, hG, hl⟩, rfl, hown⟩
    · rw [ndF_length] at h1
      exact .inr ⟨_, _, .inr ⟨h0, m, b, rfl, rfl, h1, h2, h3, h4, h5⟩, rfl⟩
  · obtain ⟨t, x, htx⟩ := errV_some (st := E.st) (bt := E.bt) (tt := E.tt) (sq := E.sq) (bq := E.bq) (tq := E.tq) h0
    have HTX : Hid (OErr p E w t x) := .inl ⟨h0, htx.symm⟩
    obtain ⟨w1, hw1⟩ : ∃ w1, w1 = w.alloc (.cells #[.slice o1 p.ins.length c1, .slice o2 p.outs.length c2, .slice o3 p.fs.length c3, .slice o4 p.asserts.length c4, .slice o5 p.checks.length c5] 29) := ⟨_, rfl⟩
    have hb1 : Below w.heap.size w w1 := by rw [hw1]; exact (Below.refl _ _).alloc (Nat.le_refl _) _
    have hr1 : w1.heap[w.heap.size]? = some (.cells #[.slice o1 p.ins.length c1, .slice o2 p.outs.length c2, .slice o3 p.fs.length c3, .slice o4 p.asserts.length c4, .slice o5 p.checks.length c5] 29 (0, 0)) := by rw [hw1]; exact heap_alloc_new _ _
    have h1 := h.keep hb1
    have HFC : Hid (Calls Tryd.prog 12 #[.agg #[.slice o1 p.ins.length c1, .slice o2 p.outs.length c2, .slice o3 p.fs.length c3, .slice o4 p.asserts.length c4, .slice o5 p.checks.length c5]] w1 fun e w' => Below w1.heap.size w1 w' ∧ e = .returned (.iface t x)) := by
      have := flatCheck_any w1 S p o1 o2 o3 o4 o5 c1 c2 c3 c4 c5 h1.pg h1.plain h1.lt h1.nil h1.ok _ _ _ _ _ _ h1.e3
      rw [htx] at this
      exact this
    have HW1 : Hid (w.alloc (.cells #[.slice o1 p.ins.length c1, .slice o2 p.outs.length c2, .slice o3 p.fs.length c3, .slice o4 p.asserts.length c4, .slice o5 p.checks.length c5] 29) = w1) := hw1.symm
    have HB1 : Hid (Below w.heap.size w w1) := hb1
    obtain ⟨P, hP⟩ : ∃ P, P = w.heap.size := ⟨_, rfl⟩
    have HP : Hid (P = w.heap.size) := hP
    rw [← hP] at hr1
    have a1 : w1.cell? ⟨P, 0, none⟩ = some (.slice o1 p.ins.length c1) := by rw [cell_of_row w1 _ _ _ _ (0, 0) hr1]; rfl
    have a2 : w1.cell? ⟨P, 0 + 1, none⟩ = some (.slice o2 p.outs.length c2) := by rw [cell_of_row w1 _ _ _ _ (0, 0) hr1]; rfl
    have a3 : w1.cell? ⟨P, 0 + 2, none⟩ = some (.slice o3 p.fs.length c3) := by rw [cell_of_row w1 _ _ _ _ (0, 0) hr1]; rfl
    have a4 : w1.cell? ⟨P, 0 + 3, none⟩ = some (.slice o4 p.asserts.length c4) := by rw [cell_of_row w1 _ _ _ _ (0, 0) hr1]; rfl
    have a5 : w1.cell? ⟨P, 0 + 4, none⟩ = some (.slice o5 p.checks.length c5) := by rw [cell_of_row w1 _ _ _ _ (0, 0) hr1]; rfl
    clear h h0 htx hw1 hb1 hr1 h1 hP
    go_enter Tryd.func6, Tryd.ntmps6
    go_upto_region 1 with fail
    rw [HW1.out, ← HP.out]
    go_wp2_with fail
    refine HFC.out.mono ?_
    rintro e w2 ⟨hb2, rfl⟩
    have HB2 : Hid (Below w.heap.size w w2) := HB1.out.trans (hb2.mono HB1.out.size)
    clear hb2 a1 a2 a3 a4 a5 HFC
    go_wp2
    refine bodyPost_ret (results_tmp2 rfl _ _ _) rfl ?_
    exact ⟨HB2.out, .inr ⟨t, x, HTX.out.keep HB2.out, rfl⟩⟩
end Go.Proofs.YtpkgingjmgakbaaDoor
