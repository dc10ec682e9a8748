/-
  package word: caught, Of BY CONTRACT.
-/
import Derived.Test.YtpiglmaojonbnaaGreatDoorP17
import Derived.Test.YtpiglmaojonbnaaGreatDoorP09
namespace Go.Proofs.YtpiglmaojonbnaaGreatDoor
open Go.RowKit Go.Maps

theorem Mvd.keepRow {F F' : Nat → Prop} {w w' : World} (h : Mvd F F' w w') {k : Nat} {o : Obj} (hk : w.heap[k]? = some o) (hn : ¬ F k) : w'.heap[k]? = some o := (h.rowKept hk hn).1
/-- What comes of an operator of words. -/
def OfP (G : Nat) (gs : List (Int × Int)) (ins K len : Nat) (f : (List Bool → Nat → Bool) → Prop) (tf : List Bool → Bool) (F : Nat → Prop) (w w' : World) (uv tv : Value) : Prop :=
  ∃ (V : Nat) (out : List Int) (tr : Int) (gs' : List (Int × Int)) (F' : Nat → Prop), uv = .slice (some ⟨V, 0, none⟩) len len ∧ tv = .int .i64 tr ∧ out.length = len ∧ w.heap.size ≤ V ∧ w'.heap[V]? = some (.cells (rowI out) 39 (0, 0)) ∧ ¬ F' V ∧ GrAt G gs' ins F' w' ∧ Mvd F F' w w' ∧ MadsQ gs gs' K out f ∧ HasL gs' tr ∧ ∀ inp, valL gs' inp tr = tf inp
set_option maxRecDepth 100000 in
set_option maxHeartbeats 2000000 in
theorem wcaught_any {G : Nat} {gs : List (Int × Int)} {ins : Nat} {F : Nat → Prop} {w0 w : World} (h : GrAt G gs ins F w) (hm0 : Mvd F F w0 w) (hl : gs.length < 89000) (s : ByteArray) (hs : s.size ≤ maxLen) (o : Option Addr) (n c : Nat) (ls : List (List Int)) (hv : WordsAt F w (.slice o n c) ls) (hn : n = ls.length) (hH : ∀ l ∈ ls, ∀ x ∈ l, HasL gs x) (et st : TypeId) (eq sq : Value) (he : w.cell? ⟨0, 0, none⟩ = some (.iface et eq)) (hsh : w.cell? ⟨1, 0, none⟩ = some (.iface st sq))
    (bm bo bl bu bt : Nat) (hcap : Caps w G bm bo bl bu bt s (.slice o n c) (.slice none 0 0) (.int .i64 0)) (hnc : ¬ F bm ∧ ¬ F bo ∧ ¬ F bl ∧ ¬ F bu ∧ ¬ F bt) (hut : bu ≠ bt) (hlo : w0.heap.size ≤ bu ∧ w0.heap.size ≤ bt) (K len : Nat) (f : (List Bool → Nat → Bool) → Prop) (tf : List Bool → Bool)
    (hval : askB s.data.toList ls = true → ∀ F1 w1, GrAt G gs ins F1 w1 → WordsAt F1 w1 (.slice o n c) ls → Calls Tryz.prog 21 #[.agg #[.pointer (some ⟨G, 0, none⟩)], .string s, .slice o n c] w1 (ValP G gs ins K len f tf F1 w1)) :
    Calls Tryz.prog 18 #[.func (.func 19) #[] #[.pointer (some ⟨bm, 0, none⟩), .pointer (some ⟨bo, 0, none⟩), .pointer (some ⟨bl, 0, none⟩), .pointer (some ⟨bu, 0, none⟩), .pointer (some ⟨bt, 0, none⟩)]] w fun e w' =>
      (askB s.data.toList ls = true ∧ e = .returned .nilIface ∧ ∃ uv tv, w'.heap[bu]? = some (.cells #[uv] 38 (0, 0)) ∧ w'.heap[bt]? = some (.cells #[tv] 39 (0, 0)) ∧ OfP G gs ins K len f tf F w0 w' uv tv) ∨
      (askB s.data.toList ls = false ∧ e = .returned (.iface st sq) ∧ w'.heap[bu]? = some (.cells #[.slice none 0 0] 38 (0, 0)) ∧ w'.heap[bt]? = some (.cells #[.int .i64 0] 39 (0, 0)) ∧ GrAt G gs ins F w' ∧ Mvd F F w0 w') := by
  have hmf : ∀ (fn : Fn) (first cap : Array Value) (w : World), (Instr.makeFunc fn first cap).run Tryz.prog w = .ok (.func fn first cap) w := fun _ _ _ _ => rfl
  have hbA : Below w.heap.size w (w.alloc (.cells #[.nilIface] 35)) := (Below.refl _ _).alloc (Nat.le_refl _) _
  have hZ : (w.alloc (.cells #[.nilIface] 35)).heap[w.heap.size]? = some (.cells #[.nilIface] 35 (0, 0)) := heap_alloc_new w (.cells #[.nilIface] 35)
  have hcap' := (hcap.keep (Mvd.of_below (F := F) hbA) hnc).1
  have HC := of1_any (h.below hbA) hl s hs o n c ls (hv.move (Mvd.of_below hbA)) hn hH et st eq sq (cell_keep hbA he) (cell_keep hbA hsh) bm bo bl bu bt hcap' hnc hut K len f tf hval
  have hE1 := cell_keep hbA hsh
  have hFl := h.2.2.1
  have hu1 : bu < w.heap.size := (Array.getElem?_eq_some_iff.1 hcap.u).1
  have ht1 : bt < w.heap.size := (Array.getElem?_eq_some_iff.1 hcap.t).1
  have hnE : ¬ F w.heap.size := fun hf => by have := hFl _ hf; omega
  have hg0 := h.below hbA
  have hm1 := hm0.trans (Mvd.of_below (F := F) hbA)
  obtain ⟨wa, hwa⟩ : ∃ wa, wa = w.alloc (.cells #[.nilIface] 35) := ⟨_, rfl⟩
  rw [← hwa] at HC hZ hE1 hbA hcap' hg0 hm1
  have hc0 := hm0.size
  have HC' : Hid (Calls Tryz.prog 19 #[.pointer (some ⟨bm, 0, none⟩), .pointer (some ⟨bo, 0, none⟩), .pointer (some ⟨bl, 0, none⟩), .pointer (some ⟨bu, 0, none⟩), .pointer (some ⟨bt, 0, none⟩)] wa fun e w' =>
      (askB s.data.toList ls = true ∧ e = .returned (.tuple #[]) ∧ ∃ (V : Nat) (out : List Int) (tr : Int) (gs' : List (Int × Int)) (F' : Nat → Prop) (w2 : World), w' = (w2.setCell ⟨bu, 0, none⟩ (.slice (some ⟨V, 0, none⟩) len len)).setCell ⟨bt, 0, none⟩ (.int .i64 tr) ∧ Caps w2 G bm bo bl bu bt s (.slice o n c) (.slice none 0 0) (.int .i64 0) ∧ (¬ F' bm ∧ ¬ F' bo ∧ ¬ F' bl ∧ ¬ F' bu ∧ ¬ F' bt) ∧ out.length = len ∧ wa.heap.size ≤ V ∧ w2.heap[V]? = some (.cells (rowI out) 39 (0, 0)) ∧ ¬ F' V ∧ GrAt G gs' ins F' w2 ∧ Mvd F F' wa w2 ∧ MadsQ gs gs' K out f ∧ HasL gs' tr ∧ ∀ inp, valL gs' inp tr = tf inp) ∨
      (askB s.data.toList ls = false ∧ ThrewS e ∧ Below wa.heap.size wa w')) := HC
  have HWA : Hid (w.alloc (.cells #[.nilIface] 35) = wa) := hwa.symm
  have HZ : Hid (wa.heap[w.heap.size]? = some (.cells #[.nilIface] 35 (0, 0))) := hZ
  have HE1 : Hid (wa.cell? ⟨1, 0, none⟩ = some (.iface st sq)) := hE1
  have HN : Hid (bu < w.heap.size ∧ bt < w.heap.size ∧ w0.heap.size ≤ bu ∧ w0.heap.size ≤ bt ∧ bu ≠ bt ∧ w0.heap.size ≤ w.heap.size) := ⟨hu1, ht1, hlo.1, hlo.2, hut, hc0⟩
  have HnE : Hid (¬ F w.heap.size) := hnE
  have HG0 : Hid (GrAt G gs ins F wa) := hg0
  have HM1 : Hid (Mvd F F w0 wa) := hm1
  have HCA : Hid (Caps wa G bm bo bl bu bt s (.slice o n c) (.slice none 0 0) (.int .i64 0)) := hcap'
  clear h hm0 hl hs hv hn hH he hsh hcap hnc hut hlo hval hbA hZ hcap' HC hE1 hFl hu1 ht1 hnE hg0 hm1 hwa hc0
  go_enter_defers Tryz.func18, Tryz.ntmps18
  go_wp2_with fail
  rw [HWA.out]
  refine HC'.out.mono ?_
  rintro e w1 (⟨hk, rfl, V, out, tr, gs', F', w2, rfl, hcp, hnf, h1, h2, h3, h4, g2, m2, d2, t1, t2⟩ | ⟨hk, ht, hb2⟩)
  · have hne := HN.out
    have hr2 := m2.rowKept HZ.out HnE.out
    have eU : ∀ k, k ≠ bu → k ≠ bt → ((w2.setCell ⟨bu, 0, none⟩ (.slice (some ⟨V, 0, none⟩) len len)).setCell ⟨bt, 0, none⟩ (.int .i64 tr)).heap[k]? = w2.heap[k]? := fun k h1 h2 => by
      rw [Below.heap_setCell _ ⟨bt, 0, none⟩ _ _ h2, Below.heap_setCell _ ⟨bu, 0, none⟩ _ _ h1]
    have hrE := (eU w.heap.size (by omega) (by omega)).trans hr2.1
    have hVne : V ≠ bu ∧ V ≠ bt := ⟨fun e => by subst e; have := HN.out.1; have := (Array.getElem?_eq_some_iff.1 HZ.out).1; omega, fun e => by subst e; have := HN.out.2.1; have := (Array.getElem?_eq_some_iff.1 HZ.out).1; omega⟩
    have hrV := (eU V hVne.1 hVne.2).trans h3
    have hrU : ((w2.setCell ⟨bu, 0, none⟩ (.slice (some ⟨V, 0, none⟩) len len)).setCell ⟨bt, 0, none⟩ (.int .i64 tr)).heap[bu]? = some (.cells #[.slice (some ⟨V, 0, none⟩) len len] 38 (0, 0)) := by
      rw [Below.heap_setCell _ ⟨bt, 0, none⟩ _ _ hne.2.2.2.2.1]; exact heap_setCell_at hcp.u _
    have hrT : ((w2.setCell ⟨bu, 0, none⟩ (.slice (some ⟨V, 0, none⟩) len len)).setCell ⟨bt, 0, none⟩ (.int .i64 tr)).heap[bt]? = some (.cells #[.int .i64 tr] 39 (0, 0)) := by
      have e : (w2.setCell ⟨bu, 0, none⟩ (.slice (some ⟨V, 0, none⟩) len len)).heap[bt]? = w2.heap[bt]? := Below.heap_setCell _ ⟨bu, 0, none⟩ _ _ (fun e => hne.2.2.2.2.1 (by have e' : bt = bu := e; exact e'.symm))
      exact heap_setCell_at (e.trans hcp.t) _
    have hgg := (g2.set hnf.2.2.2.1 0 (.slice (some ⟨V, 0, none⟩) len len)).set hnf.2.2.2.2 0 (.int .i64 tr)
    have hmm := ((HM1.out.trans m2).set (i := 0) hne.2.2.1 (.slice (some ⟨V, 0, none⟩) len len)).set (i := 0) hne.2.2.2.1 (.int .i64 tr)
    have hVl : w0.heap.size ≤ V := by have := HM1.out.size; omega
    obtain ⟨w3, hw3⟩ : ∃ w3, w3 = (w2.setCell ⟨bu, 0, none⟩ (.slice (some ⟨V, 0, none⟩) len len)).setCell ⟨bt, 0, none⟩ (.int .i64 tr) := ⟨_, rfl⟩
    rw [← hw3] at hrE hrV hrU hrT hgg hmm
    rw [← hw3]
    have c1 : w3.cell? ⟨w.heap.size, 0, none⟩ = some .nilIface := by rw [cell_of_row _ _ 0 _ _ (0, 0) hrE]; rfl
    have f1 : w3.frozen? ⟨w.heap.size, 0, none⟩ = false := frozen_row hrE
    have HK : Hid (askB s.data.toList ls = true) := hk
    have HEND : Hid (w3.heap[bu]? = some (.cells #[.slice (some ⟨V, 0, none⟩) len len] 38 (0, 0)) ∧ w3.heap[bt]? = some (.cells #[.int .i64 tr] 39 (0, 0)) ∧ w3.heap[V]? = some (.cells (rowI out) 39 (0, 0)) ∧ GrAt G gs' ins F' w3 ∧ Mvd F F' w0 w3) := ⟨hrU, hrT, hrV, hgg, hmm⟩
    have HE2 : Hid (out.length = len ∧ ¬ F' V ∧ MadsQ gs gs' K out f ∧ HasL gs' tr ∧ (∀ inp, valL gs' inp tr = tf inp) ∧ w0.heap.size ≤ V ∧ ¬ F' w.heap.size) := ⟨h1, h4, d2, t1, t2, hVl, hr2.2⟩
    have HVW : Hid (V ≠ w.heap.size) := by
      have := (Array.getElem?_eq_some_iff.1 HZ.out).1; unfold Hid; omega
    clear eU hrE hrV hrU hrT hgg hmm hw3 hk hcp hnf h1 h2 h3 h4 g2 m2 d2 t1 t2 hr2 hVne hVl hne
    go_wp2
    refine leaves_cons (f := 33) (args := #[.pointer (some ⟨w.heap.size, 0, none⟩)]) (by simp) (by simp [go_sem]) ?_
    refine (wcatch_idle _ _).mono ?_
    rintro e u' w'' ⟨rfl, rfl, rfl⟩
    have eE : ∀ k, k ≠ w.heap.size → (w3.setCell ⟨w.heap.size, 0, none⟩ .nilIface).heap[k]? = w3.heap[k]? := fun k hk => Below.heap_setCell _ ⟨w.heap.size, 0, none⟩ _ _ hk
    have hne := HN.out
    refine ⟨.nilIface, ?_, Or.inl ⟨HK.out, rfl, _, _, (eE bu (by omega)).trans HEND.out.1, (eE bt (by omega)).trans HEND.out.2.1, ⟨V, out, tr, gs', F', rfl, rfl, HE2.out.1, HE2.out.2.2.2.2.2.1, (eE V HVW.out).trans HEND.out.2.2.1, HE2.out.2.1, HEND.out.2.2.2.1.set HE2.out.2.2.2.2.2.2 _ _, HEND.out.2.2.2.2.set hne.2.2.2.2.2 _, HE2.out.2.2.1, HE2.out.2.2.2.1, HE2.out.2.2.2.2.1⟩⟩⟩
    simp [results, Tryz.results18, go_sem, c1]
  · unfold ThrewS at ht
    subst ht
    have hne := HN.out
    have hr := row_keep hb2 HZ.out
    have hrU := row_keep hb2 HCA.out.u
    have hrT := row_keep hb2 HCA.out.t
    have c1 : w1.cell? ⟨w.heap.size, 0, none⟩ = some .nilIface := by rw [cell_of_row _ _ 0 _ _ (0, 0) hr]; rfl
    have f1 : w1.frozen? ⟨w.heap.size, 0, none⟩ = false := frozen_row hr
    have e1 := cell_keep hb2 HE1.out
    have hlw : w.heap.size < w1.heap.size := cell_blk c1
    have HK : Hid (askB s.data.toList ls = false) := hk
    have HG2 : Hid (GrAt G gs ins F w1) := HG0.out.below hb2
    have HM2 : Hid (Mvd F F w0 w1) := HM1.out.trans (Mvd.of_below hb2)
    have HRU : Hid (w1.heap[bu]? = _) := hrU
    have HRT : Hid (w1.heap[bt]? = _) := hrT
    have HE : Hid (w1.cell? ⟨1, 0, none⟩ = some (.iface st sq)) := e1
    clear hk hb2 hr hrU hrT e1
    go_wp2
    refine leaves_cons (f := 33) (args := #[.pointer (some ⟨w.heap.size, 0, none⟩)]) (by simp) (by simp [go_sem]) ?_
    refine (wcatch_wrong w.heap.size .nilIface (.iface st sq) [] _ c1 f1 HE.out ⟨st, sq, rfl⟩).mono ?_
    rintro e u' w'' ⟨rfl, rfl, o, rfl⟩
    have eE : ∀ k, k ≠ w.heap.size → k < w1.heap.size → ((w1.setCell ⟨w.heap.size, 0, none⟩ (.iface st sq)).alloc o).heap[k]? = w1.heap[k]? := fun k hk hl => by
      rw [Below.heap_alloc _ _ _ (by rw [size_setCell]; exact hl), Below.heap_setCell _ ⟨w.heap.size, 0, none⟩ _ _ hk]
    refine ⟨.iface st sq, ?_, Or.inr ⟨HK.out, rfl, (eE bu (by omega) (by omega)).trans HRU.out, (eE bt (by omega) (by omega)).trans HRT.out, (HG2.out.set HnE.out _ _).below ((Below.refl _ _).alloc (Nat.le_refl _) _), (HM2.out.set hne.2.2.2.2.2 _).alloc _⟩⟩
    simp [results, Tryz.results18, go_sem, c1, hlw]
end Go.Proofs.YtpiglmaojonbnaaGreatDoor

/-
  package word: Of BY CONTRACT.
-/
namespace Go.Proofs.YtpiglmaojonbnaaGreatDoor
open Go.RowKit Go.Maps

/-- A cell that is written as it was. -/
theorem setCell_same {w : World} {b : Nat} {v : Value} {t : TypeId} (h : w.heap[b]? = some (.cells #[v] t (0, 0))) : w.setCell ⟨b, 0, none⟩ v = w := by
  have hlt := (Array.getElem?_eq_some_iff.1 h).1
  have hv := (Array.getElem?_eq_some_iff.1 h).2
  have e : (w.setCell ⟨b, 0, none⟩ v).heap = w.heap := by
    apply Array.ext_getElem?
    intro k
    by_cases hk : k = b
    · subst hk
      rw [heap_setCell_at h, h]; rfl
    · exact Below.heap_setCell w ⟨b, 0, none⟩ v k hk
  have : w.setCell ⟨b, 0, none⟩ v = { w with heap := (w.setCell ⟨b, 0, none⟩ v).heap } := rfl
  rw [this, e]
theorem Mvd.drewR {F F' : Nat → Prop} {w w' : World} (h : Mvd F F' w w') : Mvd F F' w w'.drew := ⟨h.os, h.tape, h.output, h.size, h.block, h.more⟩
theorem GrAt.drewR {G : Nat} {gs : List (Int × Int)} {ins : Nat} {F : Nat → Prop} {w : World} (h : GrAt G gs ins F w) : GrAt G gs ins F w.drew := h.below ((Below.refl _ _).drew)
theorem OfP.drewR {G : Nat} {gs : List (Int × Int)} {ins K len : Nat} {f : (List Bool → Nat → Bool) → Prop} {tf : List Bool → Bool} {F : Nat → Prop} {w w' : World} {uv tv : Value} (h : OfP G gs ins K len f tf F w w' uv tv) : OfP G gs ins K len f tf F w w'.drew uv tv := by
  obtain ⟨V, out, tr, gs', F', h1, h2, h3, h4, h5, h6, h7, h8, h9⟩ := h
  exact ⟨V, out, tr, gs', F', h1, h2, h3, h4, h5, h6, h7.drewR, h8.drewR, h9⟩
set_option maxRecDepth 100000 in
set_option maxHeartbeats 2000000 in
theorem of_any {G : Nat} {gs : List (Int × Int)} {ins : Nat} {F : Nat → Prop} {w : World} (h : GrAt G gs ins F w) (hl : gs.length < 89000) (s : ByteArray) (hs : s.size ≤ maxLen) (o : Option Addr) (n c : Nat) (ls : List (List Int)) (hv : WordsAt F w (.slice o n c) ls) (hn : n = ls.length) (hH : ∀ l ∈ ls, ∀ x ∈ l, HasL gs x) (et st : TypeId) (eq sq : Value) (he : w.cell? ⟨0, 0, none⟩ = some (.iface et eq)) (hsh : w.cell? ⟨1, 0, none⟩ = some (.iface st sq)) (K len : Nat) (f : (List Bool → Nat → Bool) → Prop) (tf : List Bool → Bool)
    (hval : askB s.data.toList ls = true → ∀ F1 w1, GrAt G gs ins F1 w1 → WordsAt F1 w1 (.slice o n c) ls → Calls Tryz.prog 21 #[.agg #[.pointer (some ⟨G, 0, none⟩)], .string s, .slice o n c] w1 (ValP G gs ins K len f tf F1 w1)) :
    Calls Tryz.prog 8 #[.pointer (some ⟨G, 0, none⟩), .string s, .slice o n c] w fun e w' =>
      (askB s.data.toList ls = true ∧ ∃ uv tv, e = .returned (.tuple #[uv, tv, .nilIface]) ∧ OfP G gs ins K len f tf F w w' uv tv) ∨
      (askB s.data.toList ls = false ∧ e = .returned (.tuple #[.slice none 0 0, .int .i64 0, .iface st sq]) ∧ GrAt G gs ins F w' ∧ Mvd F F w w') := by
  have hmf : ∀ (fn : Fn) (first cap : Array Value) (w : World), (Instr.makeFunc fn first cap).run Tryz.prog w = .ok (.func fn first cap) w := fun _ _ _ _ => rfl
  obtain ⟨w5, hw5⟩ : ∃ w5, w5 = ((((w.alloc (.cells #[.string s] 9)).alloc (.cells #[.slice o n c] 32)).alloc (.cells #[.slice none 0 0] 38)).alloc (.cells #[.int .i64 0] 39)).alloc (.cells #[.pointer (some ⟨G, 0, none⟩)] 60) := ⟨_, rfl⟩
  have hb5 : Below w.heap.size w w5 := by
    rw [hw5]
    exact (((((Below.refl _ _).alloc (Nat.le_refl _) _).alloc (by simp <;> omega) _).alloc (by simp <;> omega) _).alloc (by simp <;> omega) _).alloc (by simp <;> omega) _
  have r0 : w5.heap[w.heap.size]? = some (.cells #[.string s] 9 (0, 0)) := by
    rw [hw5]; exact alloc_row _ (alloc_row _ (alloc_row _ (alloc_row _ (heap_alloc_new _ _))))
  have r1 : w5.heap[w.heap.size + 1]? = some (.cells #[.slice o n c] 32 (0, 0)) := by
    have h := heap_alloc_new (w.alloc (.cells #[.string s] 9)) (.cells #[.slice o n c] 32)
    have e : (w.alloc (.cells #[.string s] 9)).heap.size = w.heap.size + 1 := by simp
    rw [e] at h
    rw [hw5]; exact alloc_row _ (alloc_row _ (alloc_row _ h))
  have r2 : w5.heap[w.heap.size + 1 + 1]? = some (.cells #[.slice none 0 0] 38 (0, 0)) := by
    have h := heap_alloc_new ((w.alloc (.cells #[.string s] 9)).alloc (.cells #[.slice o n c] 32)) (.cells #[.slice none 0 0] 38)
    have e : ((w.alloc (.cells #[.string s] 9)).alloc (.cells #[.slice o n c] 32)).heap.size = w.heap.size + 1 + 1 := by simp
    rw [e] at h
    rw [hw5]; exact alloc_row _ (alloc_row _ h)
  have r3 : w5.heap[w.heap.size + 1 + 1 + 1]? = some (.cells #[.int .i64 0] 39 (0, 0)) := by
    have h := heap_alloc_new (((w.alloc (.cells #[.string s] 9)).alloc (.cells #[.slice o n c] 32)).alloc (.cells #[.slice none 0 0] 38)) (.cells #[.int .i64 0] 39)
    have e : (((w.alloc (.cells #[.string s] 9)).alloc (.cells #[.slice o n c] 32)).alloc (.cells #[.slice none 0 0] 38)).heap.size = w.heap.size + 1 + 1 + 1 := by simp
    rw [e] at h
    rw [hw5]; exact alloc_row _ h
  have r4 : w5.heap[w.heap.size + 1 + 1 + 1 + 1]? = some (.cells #[.pointer (some ⟨G, 0, none⟩)] 60 (0, 0)) := by
    have h := heap_alloc_new ((((w.alloc (.cells #[.string s] 9)).alloc (.cells #[.slice o n c] 32)).alloc (.cells #[.slice none 0 0] 38)).alloc (.cells #[.int .i64 0] 39)) (.cells #[.pointer (some ⟨G, 0, none⟩)] 60)
    have e : ((((w.alloc (.cells #[.string s] 9)).alloc (.cells #[.slice o n c] 32)).alloc (.cells #[.slice none 0 0] 38)).alloc (.cells #[.int .i64 0] 39)).heap.size = w.heap.size + 1 + 1 + 1 + 1 := by simp
    rw [e] at h
    rw [hw5]; exact h
  have hF := h.2.2.1
  have hnF : ∀ k, w.heap.size ≤ k → ¬ F k := fun k hk hf => by have := hF _ hf; omega
  have HC := wcaught_any (w0 := w) (h.below hb5) (Mvd.of_below hb5) hl s hs o n c ls (hv.move (Mvd.of_below hb5)) hn hH et st eq sq (cell_keep hb5 he) (cell_keep hb5 hsh) (w.heap.size + 1 + 1 + 1 + 1) w.heap.size (w.heap.size + 1) (w.heap.size + 1 + 1) (w.heap.size + 1 + 1 + 1) ⟨r4, r0, r1, r2, r3⟩ ⟨hnF _ (by omega), hnF _ (by omega), hnF _ (by omega), hnF _ (by omega), hnF _ (by omega)⟩ (by omega) ⟨by omega, by omega⟩ K len f tf hval
  have HW5 : Hid (((((w.alloc (.cells #[.string s] 9)).alloc (.cells #[.slice o n c] 32)).alloc (.cells #[.slice none 0 0] 38)).alloc (.cells #[.int .i64 0] 39)).alloc (.cells #[.pointer (some ⟨G, 0, none⟩)] 60) = w5) := hw5.symm
  clear h hl hs hv hn hH he hsh hval r0 r1 r2 r3 r4 hF hnF hb5 hw5
  go_enter Tryz.func8, Tryz.ntmps8
  go_wp2_with fail
  rw [HW5.out]
  refine HC.mono ?_
  clear HC HW5
  rintro e w6 (⟨hk, rfl, uv, tv, hu, ht, hP⟩ | ⟨hk, rfl, hu, ht, hg, hm⟩)
  · have u0 : w6.cell? ⟨w.heap.size + 1 + 1, 0, none⟩ = some uv := by rw [cell_of_row _ _ 0 _ _ (0, 0) hu]; rfl
    have uf : w6.frozen? ⟨w.heap.size + 1 + 1, 0, none⟩ = false := frozen_row hu
    have t0 : w6.cell? ⟨w.heap.size + 1 + 1 + 1, 0, none⟩ = some tv := by rw [cell_of_row _ _ 0 _ _ (0, 0) ht]; rfl
    have tf0 : w6.frozen? ⟨w.heap.size + 1 + 1 + 1, 0, none⟩ = false := frozen_row ht
    have s1 := setCell_same hu
    have s2 := setCell_same ht
    have HK : Hid (askB s.data.toList ls = true) := hk
    have HP : Hid (OfP G gs ins K len f tf F w w6 uv tv) := hP
    obtain ⟨V, out, tr, gs', F', rfl, rfl, -⟩ := hP
    clear hk hu ht
    go_wp2
    go_region
    all_goals go_wp2
    all_goals refine bodyPost_ret (v := .tuple #[.slice (some ⟨V, 0, none⟩) len len, .int .i64 tr, .nilIface]) ?_ rfl ?_
    · simp [results, Tryz.results8, go_sem, u0, t0]
    · exact Or.inl ⟨HK.out, _, _, rfl, HP.out.drewR⟩
  · have u0 : w6.cell? ⟨w.heap.size + 1 + 1, 0, none⟩ = some (.slice none 0 0) := by rw [cell_of_row _ _ 0 _ _ (0, 0) hu]; rfl
    have uf : w6.frozen? ⟨w.heap.size + 1 + 1, 0, none⟩ = false := frozen_row hu
    have t0 : w6.cell? ⟨w.heap.size + 1 + 1 + 1, 0, none⟩ = some (.int .i64 0) := by rw [cell_of_row _ _ 0 _ _ (0, 0) ht]; rfl
    have tf0 : w6.frozen? ⟨w.heap.size + 1 + 1 + 1, 0, none⟩ = false := frozen_row ht
    have s1 := setCell_same hu
    have s2 := setCell_same ht
    have HK : Hid (askB s.data.toList ls = false) := hk
    have HP : Hid (GrAt G gs ins F w6 ∧ Mvd F F w w6) := ⟨hg, hm⟩
    clear hk hu ht hg hm
    go_wp2
    go_region
    all_goals go_wp2
    all_goals refine bodyPost_ret (v := .tuple #[.slice none 0 0, .int .i64 0, .iface st sq]) ?_ rfl ?_
    · simp [results, Tryz.results8, go_sem, u0, t0]
    · exact Or.inr ⟨HK.out, rfl, HP.out.1.drewR, HP.out.2.drewR⟩
end Go.Proofs.YtpiglmaojonbnaaGreatDoor

/-
  PRODUCTS BY ROWS, AS MATHEMATICS.
-/
namespace Go.Proofs.YtpiglmaojonbnaaGreatDoor

theorem natF_split (f : Nat → Bool) (i : Nat) : ∀ d, natF f (i + d) = natF f i + 2 ^ i * natF (fun j => f (i + j)) d
  | 0 => by simp [natF]
  | d + 1 => by
    have ih := natF_split f i d
    show natF f (i + d) + bI (f (i + d)) * 2 ^ (i + d) = natF f i + 2 ^ i * (natF (fun j => f (i + j)) d + bI (f (i + d)) * 2 ^ d)
    rw [ih, Int.mul_add, Int.pow_add, Int.add_assoc]
    congr 2
    ac_rfl
theorem mod_split {x y : Int} (i d : Nat) (h0 : 0 ≤ x) (h1 : x < 2 ^ i) : x + 2 ^ i * (y % 2 ^ d) = (x + 2 ^ i * y) % 2 ^ (i + d) := by
  have hd := two_pos d
  have hi := two_pos i
  have r0 := Int.emod_nonneg y (Int.ne_of_gt hd)
  have r1 := Int.emod_lt_of_pos y hd
  have e : x + 2 ^ i * y = x + 2 ^ i * (y % 2 ^ d) + 2 ^ (i + d) * (y / 2 ^ d) := by
    conv => lhs; rw [← Int.emod_add_mul_ediv y (2 ^ d)]
    rw [Int.mul_add, ← Int.mul_assoc, ← Int.pow_add, ← Int.add_assoc]
  rw [e, Int.add_mul_emod_self_left]
  refine (Int.emod_eq_of_lt (Int.add_nonneg h0 (Int.mul_nonneg (Int.le_of_lt hi) r0)) ?_).symm
  have : 2 ^ i * (y % 2 ^ d + 1) ≤ 2 ^ i * 2 ^ d := Int.mul_le_mul_of_nonneg_left (by omega) (Int.le_of_lt hi)
  rw [Int.mul_add, Int.mul_one, ← Int.pow_add] at this
  omega
/-- A product's rows, summed up so far. -/
def prodB (a b : Nat → Bool) : Nat → Nat → Bool
  | 0 => fun _ => false
  | i + 1 => fun k => if k < i then prodB a b i k else smB (fun j => prodB a b i (i + j)) (fun j => b i && a j) false (k - i)
theorem natF_false (n : Nat) : natF (fun _ => false) n = 0 := by
  induction n with
  | zero => rfl
  | succ n ih => simp [natF, ih, bI]
theorem natF_row (x : Bool) (a : Nat → Bool) : ∀ d, natF (fun j => x && a j) d = bI x * natF a d := by
  intro d
  cases x
  · simp [natF_false, bI]
  · simp [bI]
theorem prod_nat (a b : Nat → Bool) (n : Nat) : ∀ i, i ≤ n → natF (prodB a b i) n = (natF a n * natF b i) % 2 ^ n
  | 0, _ => by simp [prodB, natF_false, natF]
  | i + 1, h => by
    have ih := prod_nat a b n i (by omega)
    obtain ⟨d, rfl⟩ : ∃ d, n = i + d := ⟨n - i, by omega⟩
    have e1 : natF (prodB a b (i + 1)) i = natF (prodB a b i) i := natF_congr fun k hk => by show (if k < i then _ else _) = _; rw [if_pos hk]
    have e2 : natF (fun j => prodB a b (i + 1) (i + j)) d = natF (smB (fun j => prodB a b i (i + j)) (fun j => b i && a j) false) d := natF_congr fun k _ => by
      show (if i + k < i then _ else _) = _
      rw [if_neg (by omega), Nat.add_sub_cancel_left]
    have hlt := natF_lt (prodB a b i) i
    rw [natF_split, e1, e2, sum_mod, mod_split i d hlt.1 hlt.2, natF_row]
    have e3 := natF_split (prodB a b i) i d
    have e4 : natF (prodB a b i) i + 2 ^ i * (natF (fun j => prodB a b i (i + j)) d + bI (b i) * natF a d + bI false) = natF (prodB a b i) (i + d) + 2 ^ i * (bI (b i) * natF a d) := by
      rw [e3]; simp only [bI, Bool.false_eq_true, if_false, Int.add_zero, Int.mul_add, Int.add_assoc]
    rw [e4, ih]
    have e5 : natF a (d + i) = natF a d + 2 ^ d * natF (fun j => a (d + j)) i := natF_split a d i
    have e6 : natF a (i + d) * natF b (i + 1) = natF a (i + d) * natF b i + 2 ^ i * (bI (b i) * natF a d) + 2 ^ (i + d) * (bI (b i) * natF (fun j => a (d + j)) i) := by
      show natF a (i + d) * (natF b i + bI (b i) * 2 ^ i) = _
      rw [Int.mul_add, Int.add_assoc]
      congr 1
      rw [Nat.add_comm i d, e5, Int.add_mul, Int.pow_add]
      congr 1
      · ac_rfl
      · ac_rfl
    rw [e6, Int.add_mul_emod_self_left, Int.emod_add_emod]
theorem cry_congr {a b a' b' : Nat → Bool} {c : Bool} : ∀ {k : Nat}, (∀ j, j < k → a j = a' j ∧ b j = b' j) → cry a b c k = cry a' b' c k
  | 0, _ => rfl
  | k + 1, h => by
    unfold cry
    rw [(h k (by omega)).1, (h k (by omega)).2, cry_congr (fun j hj => h j (by omega))]
theorem smB_congr {a b a' b' : Nat → Bool} {c : Bool} {k : Nat} (h : ∀ j, j ≤ k → a j = a' j ∧ b j = b' j) : smB a b c k = smB a' b' c k := by
  unfold smB
  rw [(h k (Nat.le_refl _)).1, (h k (Nat.le_refl _)).2, cry_congr (fun j hj => h j (by omega))]
end Go.Proofs.YtpiglmaojonbnaaGreatDoor
