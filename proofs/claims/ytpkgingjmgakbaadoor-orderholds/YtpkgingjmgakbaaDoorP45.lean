/-
  lustrumlaw2: bare, first BY CONTRACT: a program of one flow comes first.
-/
import Derived.Test.YtpkgingjmgakbaaDoorP44
import Derived.Test.YtpkgingjmgakbaaDoorP41
import Derived.Lib.ItoaLen
namespace Go.Proofs.YtpkgingjmgakbaaDoor
open Go.RowKit Go.Maps

theorem RowAt.block {w : World} {S : Nat → Prop} {size b n c : Nat} {t : TypeId} {cs : Array Value} {xs : List Value} (h : w.heap[b]? = some (.cells cs t (0, 0))) (hS : S b) (hx : cs.toList = xs) (hl : xs.length = n * size) (hn : n ≤ maxLen) (hc : n ≤ c) : RowAt w S size (.slice (some ⟨b, 0, none⟩) n c) n xs := by
  refine ⟨hl, hn, _, c, rfl, fun k x hk => ⟨b, 0, rfl, hS, ?_⟩, hc⟩
  rw [Nat.zero_add, cell_of_row w b k cs t (0, 0) h]
  rw [← hx] at hk
  simpa using hk
theorem RowAt.owned {w : World} {base size n : Nat} {e : TypeId} {v : Value} {xs : List Value} (h : w.ownsRow base e size v n xs) (S : Nat → Prop) (hS : ∀ k, v.ownBlock = some k → S k) : RowAt w S size v n xs := by
  obtain ⟨h1, h2⟩ := h
  rcases h2 with ⟨rfl, rfl⟩ | ⟨g, cap, cur, rfl, hg, hh, hc1, hc2, hc3, hc4⟩
  · have : xs = [] := List.eq_nil_of_length_eq_zero (by omega)
    subst this
    exact ⟨by simp, by unfold maxLen; omega, none, 0, rfl, fun k x hx => by simp at hx, Nat.le_refl _⟩
  · refine ⟨h1, by omega, _, cap, rfl, fun k x hx => ⟨g, 0, rfl, hS g rfl, ?_⟩, hc1⟩
    rw [Nat.zero_add, cell_of_row w g k cur e (0, 0) hh]
    rw [← hc4, List.getElem?_take] at hx
    split at hx
    · simpa using hx
    · cases hx
theorem RowAt.nilS (w : World) (S : Nat → Prop) (size : Nat) : RowAt w S size (.slice none 0 0) 0 [] := ⟨by simp, by unfold maxLen; omega, none, 0, rfl, fun k x hx => by simp at hx, Nat.le_refl _⟩
/-- The errors' variables. -/
structure ErrsAt (w : World) (E : ErV) : Prop where
  e3 : E3 w E.st E.bt E.tt E.sq E.bq E.tq
  cyc : w.cell? ⟨0, 0, none⟩ = some (.iface E.ct E.cq)
  fst : w.cell? ⟨1, 0, none⟩ = some (.iface E.ft E.fq)
theorem ErrsAt.keep {w w' : World} {E : ErV} (h : ErrsAt w E) (hb : Below w.heap.size w w') : ErrsAt w' E := ⟨h.e3.keep hb, cell_keep hb h.cyc, cell_keep hb h.fst⟩
def bX : ByteArray := ⟨#[120]⟩
def bTrue : ByteArray := ⟨#[116, 114, 117, 101]⟩
def bNone : ByteArray := ⟨#[]⟩
def pBare : Pg := ⟨[], [.mk bX 0 bNone []], [⟨bX, 1, .mk bTrue 0 bNone []⟩], [], []⟩
/-- That program in memory. -/
structure BareAt (w : World) (b1 b2 : Nat) : Prop where
  out : w.heap[b1]? = some (.cells #[.string ⟨#[120]⟩] 9 (0, 0))
  fl : w.heap[b2]? = some (.cells #[.string ⟨#[120]⟩, .int .i64 1, .string ⟨#[116, 114, 117, 101]⟩, .int .i64 0, .string ⟨#[]⟩, .slice none 0 0] 34 (0, 0))
theorem three_new (w : World) (o1 o2 o3 : Obj) : (((w.alloc o1).alloc o2).alloc o3).heap[w.heap.size + 1 + 1]? = some o3 := by
  have := heap_alloc_new ((w.alloc o1).alloc o2) o3
  rwa [show ((w.alloc o1).alloc o2).heap.size = w.heap.size + 1 + 1 from by simp] at this
set_option maxRecDepth 100000 in
theorem bare_any (w : World) : Calls Tryd.prog 8 #[] w fun e w' => ∃ b1 b2, e = .returned (.agg #[.slice none 0 0, .slice (some ⟨b1, 0, none⟩) 1 1, .slice (some ⟨b2, 0, none⟩) 1 1, .slice none 0 0, .slice none 0 0]) ∧ BareAt w' b1 b2 ∧ Below w.heap.size w w' := by
  go_enter Tryd.func8, Tryd.ntmps8
  go_wp2
  go_returns
  refine ⟨_, _, rfl, ⟨alloc_row' _ (two_new w _ _), three_new w _ _ _⟩, (((Below.refl _ _).alloc (Nat.le_refl _) _).alloc (by simp) _).alloc (by simp; omega) _⟩
theorem bare_flat : flatC pBare = 0 := by
  have h1 : kRun (fun _ => none) (varsP pBare) = some (kStep (fun _ => none) (bX, 1)) := rfl
  have h2 : outsB pBare = true := by decide
  have h3 : fmL (kStep (fun _ => none) (bX, 1)) (termsP pBare) = true := by
    show fmL (kStep (fun _ => none) (bX, 1)) [.mk bTrue 0 bNone []] = true
    unfold fmL fmE fmL formF
    rw [ByteArray.toList_eq, ByteArray.toList_eq]
    rfl
  have h4 : tyL (kStep (fun _ => none) (bX, 1)) (termsP pBare) = some (kindsP pBare, [1]) := rfl
  unfold flatC
  rw [h1]
  simp only
  rw [h2, h3, h4]
  rfl
theorem bare_rch {m k : Nat} : ¬ Rch (ndF pBare.fs) m k := by
  have h0 : ndF pBare.fs = [[]] := rfl
  have h1 : ∀ m, ndA (ndF pBare.fs) m = [] := fun m => by
    rw [h0]
    cases m <;> rfl
  intro h
  cases h with
  | one _ _ hk => rw [h1] at hk; simp at hk
  | more _ _ _ hk _ => rw [h1] at hk; simp at hk
theorem bare_noerr {E : ErV} {w : World} {t : TypeId} {x : Value} (h : OErr pBare E w t x) : False := by
  rcases h with ⟨h, _⟩ | ⟨_, m, b, _, _, _, h, _⟩
  · exact h bare_flat
  · exact bare_rch h
theorem bare_order {d : List Nat} (h : OOk pBare d) : d = [0] := by
  obtain ⟨_, hG, hl⟩ := h
  have hl : d.length = 1 := hl
  match d, hl with
  | [x], _ =>
    have h1 : x < 1 := hG.lt x (List.mem_singleton_self _)
    rw [show x = 0 from by omega]
theorem bare_lt {f : List UInt8 → Nat} (h : LtIs pBare.fs f) (s : List UInt8) : f s = 0 := by
  have := h.2 (fun _ => 0) ⟨fun _ => Nat.zero_le _, fun x hx => by
    obtain rfl := List.mem_singleton.1 hx
    exact Nat.le_of_eq rfl⟩ s
  omega
theorem BareAt.pg {w : World} {b1 b2 : Nat} (h : BareAt w b1 b2) {E : ErV} (he : ErrsAt w E) : PgG w (fun b => b = b1 ∨ b = b2) pBare none (some ⟨b1, 0, none⟩) (some ⟨b2, 0, none⟩) none none 0 1 1 0 0 E := by
  refine ⟨⟨RowAt.nilS _ _ _, ?_, ⟨_, RowAt.block h.fl (.inr rfl) rfl rfl (by unfold maxLen; exact Nat.le_of_ble_eq_true rfl) (Nat.le_refl _), ?_⟩, ⟨[], RowAt.nilS _ _ _, .nil⟩, ⟨[], RowAt.nilS _ _ _, .nil⟩⟩, ?_, ?_, fun _ => ⟨rfl, rfl⟩, ?_, he.e3, he.cyc, he.fst⟩
  · exact RowAt.block h.out (.inl rfl) rfl rfl (by unfold maxLen; exact Nat.le_of_ble_eq_true rfl) (Nat.le_refl _)
  · exact .cons _ _ _ _ _ _ (.cons _ _ _ _ _ _ _ _ (RowAt.nilS _ _ _) .nil .nil) .nil
  · rintro b (rfl | rfl) _
    · exact ⟨_, _, h.out⟩
    · exact ⟨_, _, h.fl⟩
  · rintro b (rfl | rfl)
    · exact (Array.getElem?_eq_some_iff.1 h.out).1
    · exact (Array.getElem?_eq_some_iff.1 h.fl).1
  · have hm : ∀ n : Nat, n ≤ 100 → n ≤ maxLen := fun n hn => by unfold maxLen; omega
    refine ⟨by decide, by decide, by decide, ?_, ?_, ?_, ?_⟩
    · show szL [.mk bTrue 0 bNone []] ≤ 100000
      simp [szL, szE]
    · show smL [.mk bTrue 0 bNone []]
      unfold smL smE smL
      exact ⟨⟨hm _ (by decide), hm _ (by decide), trivial⟩, trivial⟩
    · intro v hv
      obtain rfl : v = (bX, 1) := List.mem_singleton.1 hv
      exact hm _ (by decide)
    · intro e he
      obtain rfl : e = .mk bX 0 bNone [] := List.mem_singleton.1 he
      exact hm _ (by decide)
set_option maxRecDepth 100000 in
set_option maxHeartbeats 1000000 in
theorem first_any (w : World) (E : ErV) (he : ErrsAt w E) : Calls Tryd.prog 4 #[] w fun e w' => e = .returned (.bool true) ∧ Below w.heap.size w w' := by
  have HB : Hid (∀ w, Calls Tryd.prog 8 #[] w fun e w' => ∃ b1 b2, e = .returned (.agg #[.slice none 0 0, .slice (some ⟨b1, 0, none⟩) 1 1, .slice (some ⟨b2, 0, none⟩) 1 1, .slice none 0 0, .slice none 0 0]) ∧ BareAt w' b1 b2 ∧ Below w.heap.size w w') := bare_any
  have HO : Hid (∀ W b1 b2, Below w.heap.size w W → BareAt W b1 b2 → Calls Tryd.prog 6 #[.agg #[.slice none 0 0, .slice (some ⟨b1, 0, none⟩) 1 1, .slice (some ⟨b2, 0, none⟩) 1 1, .slice none 0 0, .slice none 0 0]] W fun e w' => Below W.heap.size W w' ∧ ∃ o c, e = .returned (.tuple #[.slice (some ⟨o, 0, none⟩) 1 c, .nilIface]) ∧ w'.cell? ⟨o, 0, none⟩ = some (.int .i64 0)) := fun W b1 b2 hW hb => by
    refine (order_all W _ pBare none (some ⟨b1, 0, none⟩) (some ⟨b2, 0, none⟩) none none 0 1 1 0 0 E (hb.pg (he.keep hW))).mono ?_
    rintro e w' ⟨hb', hr⟩
    refine ⟨hb', ?_⟩
    rcases hr with ⟨d, o, c, hd, rfl, hown⟩ | ⟨t, x, hx, _⟩
    · obtain rfl := bare_order hd
      obtain ⟨gg, cap, es, _⟩ := hown.form (by decide)
      obtain ⟨rfl, rfl⟩ : o = some ⟨gg, 0, none⟩ ∧ c = cap := by simpa using es
      have y0 := hown.cells (g := gg) rfl 0 (.int .i64 0) rfl
      rw [Addr.add_lit, Nat.zero_add] at y0
      exact ⟨gg, c, rfl, y0⟩
    · exact (bare_noerr hx).elim
  have HC : Hid (∀ W b1 b2, Below w.heap.size w W → BareAt W b1 b2 → Calls Tryd.prog 9 #[.agg #[.slice none 0 0, .slice (some ⟨b1, 0, none⟩) 1 1, .slice (some ⟨b2, 0, none⟩) 1 1, .slice none 0 0, .slice none 0 0]] W fun e w' => Below W.heap.size W w' ∧ e = .returned .nilIface) := fun W b1 b2 hW hb => by
    refine (ocheck_any W _ pBare none (some ⟨b1, 0, none⟩) (some ⟨b2, 0, none⟩) none none 0 1 1 0 0 E (hb.pg (he.keep hW))).mono ?_
    rintro e w' ⟨hb', hr⟩
    refine ⟨hb', ?_⟩
    rcases hr with ⟨t, x, hx, _⟩ | ⟨d, f, _, hf, hr⟩
    · exact (bare_noerr hx).elim
    · rcases hr with ⟨m, b, x, _, hbad, _⟩ | ⟨_, hr⟩
      · unfold badF at hbad
        rw [bare_lt hf] at hbad
        simp at hbad
      · rcases hr with ⟨⟨y, hy, _⟩, _⟩ | ⟨_, rfl⟩
        · simp [pBare] at hy
        · rfl
  have HL : Hid (∀ W b1 b2, Below w.heap.size w W → BareAt W b1 b2 → Calls Tryd.prog 10 #[.agg #[.slice none 0 0, .slice (some ⟨b1, 0, none⟩) 1 1, .slice (some ⟨b2, 0, none⟩) 1 1, .slice none 0 0, .slice none 0 0]] W fun e w' => Below W.heap.size W w' ∧ ∃ o, e = .returned (.tuple #[.slice (some ⟨o, 0, none⟩) 1 1, .nilIface]) ∧ w'.cell? ⟨o, 0, none⟩ = some (.int .i64 0)) := fun W b1 b2 hW hb => by
    refine (late_any W _ pBare none (some ⟨b1, 0, none⟩) (some ⟨b2, 0, none⟩) none none 0 1 1 0 0 E (hb.pg (he.keep hW))).mono ?_
    rintro e w' ⟨hb', hr⟩
    refine ⟨hb', ?_⟩
    rcases hr with ⟨d, f, nb, _, hf, rfl, _, hw⟩ | ⟨t, x, hx, _⟩
    · refine ⟨nb, rfl, ?_⟩
      rw [hw.cell (k := 0) (by decide)]
      show some (Value.int .i64 ((f bX.data.toList : Nat) : Int)) = _
      rw [bare_lt hf]
      rfl
    · exact (bare_noerr hx).elim
  clear he
  go_enter Tryd.func4, Tryd.ntmps4
  go_wp2_with fail
  refine (HB.out w).mono ?_
  rintro e w1 ⟨b1, b2, rfl, hba1, hb1⟩
  have HB1 : Hid (Below w.heap.size w w1 ∧ BareAt w1 b1 b2) := ⟨hb1, hba1⟩
  clear hba1 hb1
  go_wp2_with fail
  refine (HO.out w1 b1 b2 HB1.out.1 HB1.out.2).mono ?_
  rintro e w2 ⟨hb2, o, c, rfl, y0⟩
  have HB2 : Hid (Below w.heap.size w w2) := HB1.out.1.trans (hb2.mono HB1.out.1.size)
  clear hb2
  go_wp2_with fail
  refine (HB.out w2).mono ?_
  rintro e w3 ⟨b3, b4, rfl, hba3, hb3⟩
  have HB3 : Hid (Below w.heap.size w w3 ∧ BareAt w3 b3 b4) := ⟨HB2.out.trans (hb3.mono HB2.out.size), hba3⟩
  clear hba3 hb3 y0
  go_wp2_with fail
  refine (HC.out w3 b3 b4 HB3.out.1 HB3.out.2).mono ?_
  rintro e w4 ⟨hb4, rfl⟩
  have HB4 : Hid (Below w.heap.size w w4) := HB3.out.1.trans (hb4.mono HB3.out.1.size)
  clear hb4
  go_wp2_with fail
  refine (HB.out w4).mono ?_
  rintro e w5 ⟨b5, b6, rfl, hba5, hb5⟩
  have HB5 : Hid (Below w.heap.size w w5 ∧ BareAt w5 b5 b6) := ⟨HB4.out.trans (hb5.mono HB4.out.size), hba5⟩
  clear hba5 hb5
  go_wp2_with fail
  refine (HL.out w5 b5 b6 HB5.out.1 HB5.out.2).mono ?_
  rintro e w6 ⟨hb6, o6, rfl, y0⟩
  have HB6 : Hid (Below w.heap.size w w6) := HB5.out.1.trans (hb6.mono HB5.out.1.size)
  clear hb6
  go_wp2
  go_ret
  exact ⟨rfl, HB6.out⟩
end Go.Proofs.YtpkgingjmgakbaaDoor

/-
  CHAINS OF FLOWS THAT NEED ONE ANOTHER (mathematics): each flow is the name of another one.
-/
namespace Go.Proofs.YtpkgingjmgakbaaDoor
open Go.RowKit Go.Maps

/-- The name of a flow, by its number. -/
def nmL (i : Nat) : List UInt8 := 102 :: Lib.decDigits i
def nmA (i : Nat) : ByteArray := ⟨(nmL i).toArray⟩
theorem nmA_data (i : Nat) : (nmA i).data.toList = nmL i := by simp [nmA]
def nmF (i : Nat) : List UInt8 := if i < 10 then [102, UInt8.ofNat (48 + i)] else [102, UInt8.ofNat (48 + i / 10), UInt8.ofNat (48 + i % 10)]
theorem nmL_eq {i : Nat} (h : i < 100) : nmL i = nmF i := by
  unfold nmL nmF
  by_cases h1 : i < 10
  · rw [if_pos h1, Lib.decDigits_one h1]
  · rw [if_neg h1, Lib.decDigits_two h1 h]
theorem nmF_inj : ∀ i, i < 40 → ∀ j, j < 40 → nmF i = nmF j → i = j := by decide
theorem nmL_inj {i j : Nat} (hi : i < 40) (hj : j < 40) (h : nmL i = nmL j) : i = j := by
  rw [nmL_eq (by omega), nmL_eq (by omega)] at h
  exact nmF_inj i hi j hj h
theorem nmA_size {i : Nat} (h : i < 40) : (nmA i).size ≤ 30 := by
  have h1 : (nmA i).size = (nmL i).length := by simp [nmA, ByteArray.size]
  rw [h1, nmL_eq (by omega)]
  unfold nmF
  split <;> simp
def bName : ByteArray := ⟨#[110, 97, 109, 101]⟩
def ohE (k : Nat) : Ex := .mk bName 0 (nmA k) []
def ohF (nx : Nat → Nat) (i : Nat) : Fw := ⟨nmA i, 1, ohE (nx i)⟩
def ohO (i : Nat) : Ex := .mk (nmA i) 0 ⟨#[]⟩ []
/-- A chain of so many. -/
def ohP (nx : Nat → Nat) (n : Nat) : Pg := ⟨[], (List.range n).map ohO, (List.range n).map (ohF nx), [], []⟩
section
variable {nx : Nat → Nat} {n : Nat}
theorem oh_terms : termsP (ohP nx n) = (List.range n).map (fun i => ohE (nx i)) := by
  simp [termsP, ohP, ohF, Function.comp_def]
theorem oh_vars : varsP (ohP nx n) = (List.range n).map (fun i => (nmA i, 1)) := by
  simp [varsP, varsE, varsF, ohP, ohF, Function.comp_def]
theorem range_at {i n : Nat} (h : i < n) {α : Type} (f : Nat → α) : ((List.range n).map f)[i]? = some (f i) := by simp [h]
theorem oh_kinds (hn : n ≤ 40) : ∀ j, j ≤ n → ∃ kd, kRun (fun _ => none) (((List.range n).map (fun i => (nmA i, (1 : Int)))).take j) = some kd ∧ (∀ i, i < j → kd (nmL i) = some 1) ∧ ∀ i, j ≤ i → i < n → kd (nmL i) = none
  | 0, _ => ⟨fun _ => none, by simp [kRun], fun i hi => by omega, fun _ _ _ => rfl⟩
  | j + 1, h => by
    obtain ⟨kd, h1, h2, h3⟩ := oh_kinds hn j (by omega)
    have hj := h3 j (Nat.le_refl _) (by omega)
    have hb : kBad kd (nmA j, (1 : Int)) = false := by
      unfold kBad
      rw [nmA_data, hj]
      rfl
    refine ⟨kStep kd (nmA j, 1), ?_, fun i hi => ?_, fun i hi hin => ?_⟩
    · rw [kRun_take (range_at (by omega) _) h1, hb]
      rfl
    · unfold kStep
      rw [nmA_data]
      by_cases e : i = j
      · rw [e, if_pos rfl]
      · rw [if_neg (fun h => e (nmL_inj (by omega) (by omega) h))]
        exact h2 i (by omega)
    · unfold kStep
      rw [nmA_data, if_neg (fun h => by have := nmL_inj (by omega) (by omega) h; omega)]
      exact h3 i (by omega) hin
theorem oh_tm (hn : n ≤ 40) : ∀ j, j ≤ n → ∀ i, i < j → tmF (fun _ => none) (((List.range n).map (ohF nx)).take j) (nmL i) = some 0
  | 0, _, i, hi => by omega
  | j + 1, h, i, hi => by
    rw [tmF_take (range_at (by omega) _)]
    unfold kStep
    show (if nmL i = (nmA j).data.toList then some 0 else _) = some 0
    rw [nmA_data]
    by_cases e : i = j
    · rw [e, if_pos rfl]
    · rw [if_neg (fun h => e (nmL_inj (by omega) (by omega) h))]
      exact oh_tm hn j (by omega) i (by omega)
theorem oh_out (hn : n ≤ 40) (f : List UInt8 → Option Int) (hf : ∀ i, i < n → f (nmL i) = some 0) : ∀ j, j ≤ n → ∃ g, oRun f (((List.range n).map ohO).take j) = some g ∧ ∀ i, j ≤ i → i < n → g (nmL i) = some 0
  | 0, _ => ⟨f, by simp [oRun], fun i _ hi => hf i hi⟩
  | j + 1, h => by
    obtain ⟨g, h1, h2⟩ := oh_out hn f hf j (by omega)
    have hj := h2 j (Nat.le_refl _) (by omega)
    refine ⟨kStep g (nmA j, 0 + 1), ?_, fun i hi hin => ?_⟩
    · rw [oRun_take (range_at (by omega) _) h1]
      show (match g (nmA j).data.toList with
        | none => none
        | some n => if 0 < n then none else some (kStep g (nmA j, n + 1))) = _
      rw [nmA_data, hj]
      rfl
    · unfold kStep
      rw [nmA_data, if_neg (fun h => by have := nmL_inj (by omega) (by omega) h; omega)]
      exact h2 i (by omega) hin
theorem oh_formed {kd : List UInt8 → Option Int} {k : Nat} (h : kd (nmL k) = some 1) : fmE kd (ohE k) = true := by
  unfold ohE fmE formF fmL
  rw [nmA_data, h, ByteArray.toList_eq bName]
  rfl
theorem oh_typed {kd : List UInt8 → Option Int} {k : Nat} (h : kd (nmL k) = some 1) : tyE kd (ohE k) = some (1, [1]) := by
  unfold ohE tyE
  rw [nmA_data, h]
  rfl
theorem oh_all {kd : List UInt8 → Option Int} : ∀ l : List Nat, (∀ i ∈ l, kd (nmL (nx i)) = some 1) → fmL kd (l.map fun i => ohE (nx i)) = true ∧ (∃ qs, tyL kd (l.map fun i => ohE (nx i)) = some (l.map (fun _ => 1), qs)) ∧ szL (l.map fun i => ohE (nx i)) = l.length
  | [], _ => by simp [fmL, tyL, szL]
  | i :: l, h => by
    obtain ⟨h1, ⟨qs, h2⟩, h3⟩ := oh_all l (fun j hj => h j (List.mem_cons_of_mem _ hj))
    have hi := h i (List.mem_cons_self ..)
    simp only [List.map_cons]
    unfold fmL tyL szL
    rw [oh_formed hi, oh_typed hi, h1, h2, h3]
    refine ⟨rfl, ⟨_, rfl⟩, ?_⟩
    unfold ohE szE szL
    simp
    omega
theorem oh_flat (hn : n ≤ 40) (hx : ∀ i, i < n → nx i < n) : flatC (ohP nx n) = 0 := by
  obtain ⟨kd, h1, h2, _⟩ := oh_kinds hn n (Nat.le_refl _)
  rw [List.take_of_length_le (by simp)] at h1
  obtain ⟨h3, ⟨qs, h4⟩, h5⟩ := oh_all (nx := nx) (kd := kd) (List.range n) (fun i hi => h2 _ (hx i (List.mem_range.1 hi)))
  have h6 : outsB (ohP nx n) = true := by
    obtain ⟨g, hg, _⟩ := oh_out hn (tmF (fun _ => none) ((List.range n).map (ohF nx))) (fun i hi => by
      have := oh_tm (nx := nx) hn n (Nat.le_refl _) i hi
      rwa [List.take_of_length_le (by simp)] at this) n (Nat.le_refl _)
    rw [List.take_of_length_le (by simp)] at hg
    unfold outsB
    show (oRun (tmF (fun _ => none) ((List.range n).map (ohF nx))) ((List.range n).map ohO)).isSome = true
    rw [hg]
    rfl
  unfold flatC
  rw [oh_vars, h1, oh_terms]
  simp only
  rw [h6, h3, if_pos (by rfl), if_neg (by rw [h5]; simp [ohP]; omega), h4]
  simp only
  rw [if_pos]
  simp [kindsP, ohP, ohF, Function.comp_def]
theorem oh_num (hn : n ≤ 40) : ∀ j, j ≤ n → ∀ k, k < j → numN ((List.range n).map (ohF nx)) j (nmL k) = some k
  | 0, _, k, hk => by omega
  | j + 1, h, k, hk => by
    unfold numN
    rw [range_at (by omega)]
    show (if nmL k = (nmA j).data.toList then some j else _) = some k
    rw [nmA_data]
    by_cases e : k = j
    · rw [e, if_pos rfl]
    · rw [if_neg (fun h => e (nmL_inj (by omega) (by omega) h))]
      exact oh_num hn j (by omega) k (by omega)
theorem oh_need (hn : n ≤ 40) (hx : ∀ i, i < n → nx i < n) : ndF (ohP nx n).fs = (List.range n).map fun i => [nx i] := by
  unfold ndF ohP
  simp only [List.map_map, List.length_map, List.length_range]
  refine List.map_congr_left fun i hi => ?_
  have h1 : onE (ohF nx i).e = [nmL (nx i)] := by
    unfold ohF ohE onE
    rw [nmA_data]
    rfl
  simp only [Function.comp_apply]
  rw [h1]
  simp [oh_num hn n (Nat.le_refl _) (nx i) (hx i (List.mem_range.1 hi))]
theorem oh_ndA {i : Nat} (hi : i < n) : ndA ((List.range n).map fun i => [nx i]) i = [nx i] := by
  unfold ndA
  rw [range_at hi]
  rfl
theorem iter_first (g : Nat → Nat) : ∀ (k x : Nat), iter g (k + 1) x = iter g k (g x)
  | 0, x => rfl
  | k + 1, x => by
    show g (iter g (k + 1) x) = g (iter g k (g x))
    rw [iter_first g k x]
theorem iter_add (g : Nat → Nat) (a x : Nat) : ∀ b, iter g (b + a) x = iter g b (iter g a x)
  | 0 => by simp [iter]
  | b + 1 => by
    rw [Nat.add_right_comm]
    show g (iter g (b + a) x) = g (iter g b (iter g a x))
    rw [iter_add g a x b]
theorem iter_lt (hx : ∀ i, i < n → nx i < n) {x : Nat} (h : x < n) : ∀ k, iter nx k x < n
  | 0 => h
  | k + 1 => hx _ (iter_lt hx h k)
theorem oh_rch {i j : Nat} (h : Rch ((List.range n).map fun i => [nx i]) i j) : i < n ∧ ∃ t, iter nx (t + 1) i = j := by
  have hb : ∀ {i k : Nat}, k ∈ ndA ((List.range n).map fun i => [nx i]) i → i < n ∧ k = nx i := fun {i k} hk => by
    by_cases hi : i < n
    · rw [oh_ndA hi] at hk
      exact ⟨hi, List.mem_singleton.1 hk⟩
    · unfold ndA at hk
      rw [List.getElem?_eq_none (by simp; omega)] at hk
      simp at hk
  induction h with
  | one i k hk =>
    obtain ⟨h1, h2⟩ := hb hk
    exact ⟨h1, 0, h2.symm⟩
  | more i k j hk _ ih =>
    obtain ⟨h1, h2⟩ := hb hk
    obtain ⟨_, t, ht⟩ := ih
    exact ⟨h1, t + 1, by rw [iter_first, ← h2, ht]⟩
theorem iter_mul {g : Nat → Nat} {T x : Nat} (h : iter g T x = x) : ∀ m, iter g (m * T) x = x
  | 0 => by simp [iter]
  | m + 1 => by rw [Nat.succ_mul, iter_add, h, iter_mul h m]
/-- It comes back in so many steps at most. -/
def ohBack (nx : Nat → Nat) (n i : Nat) : Prop := ∃ t, t < n ∧ iter nx (t + 1) i = i
theorem oh_cycle (hx : ∀ i, i < n → nx i < n) {i : Nat} : Rch ((List.range n).map fun i => [nx i]) i i ↔ i < n ∧ ohBack nx n i := by
  constructor
  · intro h
    obtain ⟨hi, T, hT⟩ := oh_rch h
    refine ⟨hi, ?_⟩
    obtain ⟨a, b, hab, hb, e⟩ := pigeon n (fun k => iter nx k i) (fun k _ => iter_lt hx hi k)
    have e : iter nx a i = iter nx b i := e
    obtain ⟨M, hM, hMi⟩ : ∃ M, a ≤ M ∧ iter nx M i = i := ⟨a * (T + 1), Nat.le_mul_of_pos_right _ (by omega), iter_mul hT a⟩
    have h1 : iter nx (M - a) (iter nx a i) = i := by rw [← iter_add, Nat.sub_add_cancel hM]; exact hMi
    have h2 : iter nx (b - a) i = i := by
      have h3 : iter nx (M - a + b) i = i := by rw [iter_add, ← e]; exact h1
      have h4 : M - a + b = (b - a) + M := by omega
      rwa [h4, iter_add, hMi] at h3
    refine ⟨b - a - 1, by omega, ?_⟩
    rw [show b - a - 1 + 1 = b - a from by omega]
    exact h2
  · rintro ⟨hi, t, _, ht⟩
    have := iter_rch (nd := (List.range n).map fun i => [nx i]) (g := nx) (x := i) (fun k => by rw [oh_ndA (iter_lt hx hi k)]; exact List.mem_singleton_self _) 0 (t + 1) (by omega)
    rw [ht] at this
    exact this
end
end Go.Proofs.YtpkgingjmgakbaaDoor
