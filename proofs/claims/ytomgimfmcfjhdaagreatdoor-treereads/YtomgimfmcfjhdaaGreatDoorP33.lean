/-
  package tree's WRITER, on one program: program; Text$1; caught.
-/
import Derived.Test.YtomgimfmcfjhdaaGreatDoorP32
import Derived.Test.YtomgimfmcfjhdaaGreatDoorP17
namespace Go.Proofs.YtomgimfmcfjhdaaGreatDoor
open Go.RowKit
attribute [local go_sem ↓] Go.wp_at_zero Go.wp_at_succ

/-- One program in memory: one node with an output, one equation that sets it to true. -/
structure OneP (w : World) (B : Nat) (m mo : Nat) (nm x : ByteArray) (io wo : Option Addr) (ic wc p f oc q g qc r ro rc : Nat) (o : Option Addr) (c' : Nat) : Prop where
  hm : m < B
  hp : p < B
  hq : q < B
  hr : r < B
  m0 : w.cell? ⟨m, mo, none⟩ = some (.string nm)
  m1 : w.cell? ⟨m, mo + 1, none⟩ = some (.slice io 0 ic)
  m2 : w.cell? ⟨m, mo + 2, none⟩ = some (.slice (some ⟨p, f, none⟩) 1 oc)
  m3 : w.cell? ⟨m, mo + 3, none⟩ = some (.slice wo 0 wc)
  m4 : w.cell? ⟨m, mo + 4, none⟩ = some (.slice (some ⟨q, g, none⟩) 1 qc)
  p0 : w.cell? ⟨p, f, none⟩ = some (.string x)
  p1 : w.cell? ⟨p, f + 1, none⟩ = some (.int .i64 1)
  q0 : w.cell? ⟨q, g, none⟩ = some (.string sSet)
  q1 : w.cell? ⟨q, g + 1, none⟩ = some (.slice (some ⟨r, ro, none⟩) 1 rc)
  q2 : w.cell? ⟨q, g + 2, none⟩ = some (.string sTrue)
  q3 : w.cell? ⟨q, g + 3, none⟩ = some (.int .i64 0)
  q4 : w.cell? ⟨q, g + 4, none⟩ = some (.string sNone)
  q5 : w.cell? ⟨q, g + 5, none⟩ = some (.slice o 0 c')
  r0 : w.cell? ⟨r, ro, none⟩ = some (.string x)
section
variable {w w' : World} {B m mo : Nat} {nm x : ByteArray} {io wo : Option Addr} {ic wc p f oc q g qc r ro rc : Nat} {o : Option Addr} {c' : Nat}
theorem OneP.below (h : OneP w B m mo nm x io wo ic wc p f oc q g qc r ro rc o c') (hb : Below B w w') : OneP w' B m mo nm x io wo ic wc p f oc q g qc r ro rc o c' :=
  ⟨h.hm, h.hp, h.hq, h.hr, below_cell hb h.hm h.m0, below_cell hb h.hm h.m1, below_cell hb h.hm h.m2, below_cell hb h.hm h.m3, below_cell hb h.hm h.m4, below_cell hb h.hp h.p0, below_cell hb h.hp h.p1, below_cell hb h.hq h.q0, below_cell hb h.hq h.q1, below_cell hb h.hq h.q2, below_cell hb h.hq h.q3, below_cell hb h.hq h.q4, below_cell hb h.hq h.q5, below_cell hb h.hr h.r0⟩
end
set_option maxRecDepth 100000 in
set_option maxHeartbeats 1000000 in
theorem program_true (B b : Nat) (l : List UInt8) (d : Nat) (w : World) (m mo mc : Nat) (nm x : ByteArray) (io wo : Option Addr) (ic wc p f oc q g qc r ro rc : Nat) (o : Option Addr) (c' : Nat) (h : WT B b l d w) (O : OneP w B m mo nm x io wo ic wc p f oc q g qc r ro rc o c') (hl : l.length + nm.size + x.size + x.size + 60 ≤ 6000) (hd : d < 6000) :
    Calls Tryz.prog 47 #[.pointer (some ⟨b, 0, none⟩), .slice (some ⟨m, mo, none⟩) 1 mc] w fun e w' => Writes B b l (nodeT nm x) d w e w' := by
  have HO : Hid (OneP w B m mo nm x io wo ic wc p f oc q g qc r ro rc o c') := O
  clear O
  go_enter Tryz.func47, Tryz.ntmps47
  go_wp2
  go_loopw [8] (fun t wr => (t = .int .i64 0 ∧ wr = w) ∨ (t = .int .i64 1 ∧ WT B b (l ++ nodeT nm x) d wr ∧ Below B w wr ∧ Kept b w wr)) (fun t _ => 1 - (intOf t).toNat)
  case atStart => exact Or.inl ⟨rfl, rfl⟩
  case round =>
    rcases hrel with ⟨rfl, rfl⟩ | ⟨rfl, h1, b1, k1⟩
    · have hlt := h.lt
      have hle := h.le
      have bz : Below B wr (wr.alloc (.cells #[.string nm, .slice io 0 ic, .slice (some ⟨p, f, none⟩) 1 oc, .slice wo 0 wc, .slice (some ⟨q, g, none⟩) 1 qc] 70)) := (Below.refl _ _).alloc (by omega) _
      have O1 := HO.out.below bz
      have m0 := HO.out.m0
      have m1 := HO.out.m1
      have m2 := HO.out.m2
      have m3 := HO.out.m3
      have m4 := HO.out.m4
      go_wp2_with fail
      refine (node_true B b l d _ nm x io wo ic wc p f oc q g qc r ro rc o c' (h.alloc _) O1.hp O1.hq O1.hr O1.p0 O1.p1 O1.q0 O1.q1 O1.q2 O1.q3 O1.q4 O1.q5 O1.r0 hl hd).mono ?_
      rintro e v1 ⟨rfl, h1, b1, k1⟩
      go_wp2
      exact ⟨Or.inr ⟨by go_num, h1, bz.trans b1, (Kept.alloc b wr _).trans k1⟩, by simp [intOf]⟩
    · go_wp2
      go_end0
      exact ⟨rfl, h1, b1, k1⟩
set_option maxRecDepth 100000 in
set_option maxHeartbeats 1000000 in
theorem text1_true (B b : Nat) (d : Nat) (w : World) (b3 b0 m mo mc : Nat) (nm x : ByteArray) (io wo : Option Addr) (ic wc p f oc q g qc r ro rc : Nat) (o : Option Addr) (c' : Nat) (h : WT B b [] d w) (O : OneP w B m mo nm x io wo ic wc p f oc q g qc r ro rc o c') (h3 : w.cell? ⟨b3, 0, none⟩ = some (.pointer (some ⟨b, 0, none⟩))) (h0 : w.cell? ⟨b0, 0, none⟩ = some (.slice (some ⟨m, mo, none⟩) 1 mc)) (hl : nm.size + x.size + x.size + 60 ≤ 6000) (hd : d < 6000) :
    Calls Tryz.prog 46 #[.pointer (some ⟨b3, 0, none⟩), .pointer (some ⟨b0, 0, none⟩)] w fun e w' => Writes B b [] (nodeT nm x) d w e w' := by
  have HO : Hid (OneP w B m mo nm x io wo ic wc p f oc q g qc r ro rc o c') := O
  clear O
  go_enter Tryz.func46, Tryz.ntmps46
  go_wp2_with fail
  refine (program_true B b [] d _ m mo mc nm x io wo ic wc p f oc q g qc r ro rc o c' h HO.out (by simp; omega) hd).mono ?_
  rintro e w1 ⟨rfl, h1, b1, k1⟩
  go_wp2
  go_end0
  exact ⟨rfl, h1, b1, k1⟩
theorem WT.other {B b : Nat} {l : List UInt8} {d : Nat} {w : World} (h : WT B b l d w) {k off : Nat} {cur : Array Value} {t : TypeId} (hk : w.heap[k]? = some (.cells cur t (0, 0))) (ht : t ≠ 5) (hkb : k ≠ b) (v : Value) : WT B b l d (w.setCell ⟨k, off, none⟩ v) := by
  have K : ∀ p, WrAt B b p (Lib.byteCells l) d w → WrAt B b p (Lib.byteCells l) d (w.setCell ⟨k, off, none⟩ v) := fun p ⟨hB, v', hb, hown, hne⟩ =>
    ⟨hB, v', (Below.heap_setCell _ _ _ _ (by show b ≠ k; omega)).trans hb, hown.kept (row := some k) ⟨rfl, rfl, rfl, by simp [World.setCell], fun j _ hj => Below.heap_setCell _ _ _ _ (fun e => hj (by simp [e]))⟩ (Or.inr (Lib.ownBlock_ne hown hk ht)), hne⟩
  rcases h with h | h
  · exact Or.inl (K _ h)
  · exact Or.inr (K _ h)
set_option maxRecDepth 100000 in
set_option maxHeartbeats 1000000 in
theorem caught_true (B b : Nat) (d : Nat) (w : World) (b3 b0 m mo mc : Nat) (nm x : ByteArray) (io wo : Option Addr) (ic wc p f oc q g qc r ro rc : Nat) (o : Option Addr) (c' : Nat) (h : WT B b [] d w) (O : OneP w B m mo nm x io wo ic wc p f oc q g qc r ro rc o c') (h3 : w.cell? ⟨b3, 0, none⟩ = some (.pointer (some ⟨b, 0, none⟩))) (h0 : w.cell? ⟨b0, 0, none⟩ = some (.slice (some ⟨m, mo, none⟩) 1 mc)) (hl : nm.size + x.size + x.size + 60 ≤ 6000) (hd : d < 6000) :
    Calls Tryz.prog 27 #[.func (.func 46) #[] #[.pointer (some ⟨b3, 0, none⟩), .pointer (some ⟨b0, 0, none⟩)]] w fun e w' => e = .returned .nilIface ∧ WT B b (nodeT nm x) d w' ∧ Below B w w' ∧ Kept b w w' := by
  have hmf : ∀ (fn : Fn) (first cap : Array Value) (w : World), (Instr.makeFunc fn first cap).run Tryz.prog w = .ok (.func fn first cap) w := fun _ _ _ _ => rfl
  have hlt := h.lt
  have hle := h.le
  have hbA : Below w.heap.size w (w.alloc (.cells #[.nilIface] 27)) := (Below.refl _ _).alloc (Nat.le_refl _) _
  have HZ : Hid _ := heap_alloc_new w (.cells #[.nilIface] 27)
  have bz : Below B w (w.alloc (.cells #[.nilIface] 27)) := (Below.refl _ _).alloc (by omega) _
  go_enter_defers Tryz.func27, Tryz.ntmps27
  go_wp2_with fail
  refine (text1_true B b d _ b3 b0 m mo mc nm x io wo ic wc p f oc q g qc r ro rc o c' (h.alloc _) (O.below bz) (cell_keep hbA h3) (cell_keep hbA h0) hl hd).mono ?_
  rintro e w1 ⟨rfl, h1, b1, k1⟩
  have hr1 := kept_row k1 HZ.out (by omega) (by intro c fz e; injection e with _ e; exact absurd e (by decide))
  have c1 : w1.cell? ⟨w.heap.size, 0, none⟩ = some .nilIface := by simp [World.cell?, hr1]
  have f1 : w1.frozen? ⟨w.heap.size, 0, none⟩ = false := by simp [World.frozen?, hr1]
  have hlw : w.heap.size < w1.heap.size := lt_of_cell c1
  have HR1 : Hid _ := hr1
  clear hr1
  go_wp2
  refine leaves_cons (f := 78) (args := #[.pointer (some ⟨w.heap.size, 0, none⟩)]) (by simp) (by simp [go_sem]) ?_
  refine (catch_idle _ _).mono ?_
  rintro e u' w'' ⟨rfl, rfl, rfl⟩
  refine ⟨.nilIface, ?_, rfl, h1.other HR1.out (by decide) (by omega) _, (bz.trans b1).setCell (by show B ≤ w.heap.size; omega) _, fun k o hk hb ho => ?_⟩
  · simp [results, Tryz.results27, go_sem, c1]
  · have hkl := (Array.getElem?_eq_some_iff.1 hk).1
    exact (Below.heap_setCell _ _ _ _ (by show k ≠ w.heap.size; omega)).trans (((Kept.alloc b w _).trans k1) k o hk hb ho)
end Go.Proofs.YtomgimfmcfjhdaaGreatDoor
