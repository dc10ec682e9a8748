/-
  package flat: two rows that grow beside each other (terms and their kinds).
-/
import Derived.Test.YtpkgingjmgakbaaDoorP23
namespace Go.Proofs.YtpkgingjmgakbaaDoor
open Go.RowKit Go.Maps

/-- Terms and kinds, gathered in rows of their own since a world. -/
structure Two (w wr : World) (v : Value) (n : Nat) (xs : List Value) (u : Value) (m : Nat) (ks : List Value) : Prop where
  terms : wr.ownsRow w.heap.size 32 4 v n xs
  kinds : wr.ownsRow w.heap.size 3 1 u m ks
  apart : ∀ k, v.ownBlock = some k → u.ownBlock ≠ some k
  below : Below w.heap.size w wr
theorem Two.start (w : World) : Two w w (.slice none 0 0) 0 [] (.slice none 0 0) 0 [] :=
  ⟨World.ownsRow_nil _ _ _ _, World.ownsRow_nil _ _ _ _, fun k h => by simp [Value.ownBlock] at h, Below.refl _ _⟩
theorem Two.alloc {w wr : World} {v u : Value} {n m : Nat} {xs ks : List Value} (h : Two w wr v n xs u m ks) (o : Obj) : Two w (wr.alloc o) v n xs u m ks :=
  ⟨h.terms.alloc o, h.kinds.alloc o, h.apart, h.below.alloc h.below.size o⟩
theorem Two.moreT {w wr w' : World} {v u : Value} {n m n' : Nat} {xs ks ys : List Value} {g cap : Nat} (h : Two w wr v n xs u m ks) (ho : w'.ownsRow w.heap.size 32 4 (.slice (some ⟨g, 0, none⟩) n' cap) n' ys) (hg : wr.grownBy w' v.ownBlock) (ha : v.ownBlock = some g ∨ g = wr.heap.size) : Two w w' (.slice (some ⟨g, 0, none⟩) n' cap) n' ys u m ks := by
  refine ⟨ho, h.kinds.kept hg ?_, fun k hk he => ?_, h.below.grown hg h.below.size (fun k hk => (h.terms.lt k hk).1)⟩
  · rcases hv : v.ownBlock with _ | k
    · rcases hu : u.ownBlock with _ | k
      · exact .inl rfl
      · exact .inr (by simp)
    · exact .inr (h.apart k hv)
  · obtain rfl : g = k := by simpa [Value.ownBlock] using hk
    rcases ha with ha | rfl
    · exact h.apart g ha he
    · have := (h.kinds.lt _ he).2; omega
theorem Two.moreK {w wr w' : World} {v u : Value} {n m m' : Nat} {xs ks ys : List Value} {g cap : Nat} (h : Two w wr v n xs u m ks) (ho : w'.ownsRow w.heap.size 3 1 (.slice (some ⟨g, 0, none⟩) m' cap) m' ys) (hg : wr.grownBy w' u.ownBlock) (ha : u.ownBlock = some g ∨ g = wr.heap.size) : Two w w' v n xs (.slice (some ⟨g, 0, none⟩) m' cap) m' ys := by
  refine ⟨h.terms.kept hg ?_, ho, fun k hk he => ?_, h.below.grown hg h.below.size (fun k hk => (h.kinds.lt k hk).1)⟩
  · rcases hv : v.ownBlock with _ | k
    · exact .inl rfl
    · exact .inr (fun e => h.apart k hv e.symm)
  · obtain rfl : g = k := by simpa [Value.ownBlock] using he
    rcases ha with ha | rfl
    · exact h.apart g hk ha
    · have := (h.terms.lt _ hk).2; omega
theorem Two.beyond {w wr w' : World} {v u : Value} {n m : Nat} {xs ks : List Value} (h : Two w wr v n xs u m ks) (hb : Below wr.heap.size wr w') : Two w w' v n xs u m ks := by
  have hg : wr.grownBy w' none := ⟨hb.os, hb.tape, hb.output, hb.size, fun k hk _ => hb.block k hk⟩
  refine ⟨h.terms.kept hg ?_, h.kinds.kept hg ?_, h.apart, h.below.trans (hb.mono h.below.size)⟩
  · cases hv : v.ownBlock with
    | none => exact .inl rfl
    | some k => exact .inr (by simp)
  · cases hv : u.ownBlock with
    | none => exact .inl rfl
    | some k => exact .inr (by simp)
/-- A third row that is read meanwhile. -/
structure Thr (w wr : World) (v : Value) (n : Nat) (xs : List Value) (u : Value) (m : Nat) (ks : List Value) (z : Value) (l : Nat) (zs : List Value) : Prop where
  two : Two w wr v n xs u m ks
  row : wr.ownsRow w.heap.size 32 4 z l zs
  far : ∀ k, z.ownBlock = some k → v.ownBlock ≠ some k ∧ u.ownBlock ≠ some k
theorem Thr.alloc {w wr : World} {v u z : Value} {n m l : Nat} {xs ks zs : List Value} (h : Thr w wr v n xs u m ks z l zs) (o : Obj) : Thr w (wr.alloc o) v n xs u m ks z l zs :=
  ⟨h.two.alloc o, h.row.alloc o, h.far⟩
theorem Thr.moreT {w wr w' : World} {v u z : Value} {n m n' l : Nat} {xs ks ys zs : List Value} {g cap : Nat} (h : Thr w wr v n xs u m ks z l zs) (ho : w'.ownsRow w.heap.size 32 4 (.slice (some ⟨g, 0, none⟩) n' cap) n' ys) (hg : wr.grownBy w' v.ownBlock) (ha : v.ownBlock = some g ∨ g = wr.heap.size) : Thr w w' (.slice (some ⟨g, 0, none⟩) n' cap) n' ys u m ks z l zs := by
  refine ⟨h.two.moreT ho hg ha, h.row.kept hg ?_, fun k hk => ⟨fun he => ?_, (h.far k hk).2⟩⟩
  · cases hz : z.ownBlock with
    | none => exact .inl rfl
    | some k => exact .inr fun e => (h.far k hz).1 e.symm
  · obtain rfl : g = k := by simpa [Value.ownBlock] using he
    rcases ha with ha | rfl
    · exact (h.far g hk).1 ha
    · have := (h.row.lt _ hk).2; omega
theorem Thr.moreK {w wr w' : World} {v u z : Value} {n m m' l : Nat} {xs ks ys zs : List Value} {g cap : Nat} (h : Thr w wr v n xs u m ks z l zs) (ho : w'.ownsRow w.heap.size 3 1 (.slice (some ⟨g, 0, none⟩) m' cap) m' ys) (hg : wr.grownBy w' u.ownBlock) (ha : u.ownBlock = some g ∨ g = wr.heap.size) : Thr w w' v n xs (.slice (some ⟨g, 0, none⟩) m' cap) m' ys z l zs := by
  refine ⟨h.two.moreK ho hg ha, h.row.kept hg ?_, fun k hk => ⟨(h.far k hk).1, fun he => ?_⟩⟩
  · cases hz : z.ownBlock with
    | none => exact .inl rfl
    | some k => exact .inr fun e => (h.far k hz).2 e.symm
  · obtain rfl : g = k := by simpa [Value.ownBlock] using he
    rcases ha with ha | rfl
    · exact (h.far g hk).2 ha
    · have := (h.row.lt _ hk).2; omega
/-- The terms of flows, as cells; what lies of them in the flows' own row. -/
theorem FlIn.terms {w : World} {S : Nat → Prop} {fs : List Fw} {xs : List Value} (h : FlIn w S fs xs) : ∃ ys, ExIn w S (fs.map fun f => f.e) ys ∧ ∀ i k, k < 4 → i < fs.length → ys[i * 4 + k]? = xs[i * 6 + 2 + k]? := by
  induction h with
  | nil => exact ⟨[], .nil, fun i k _ h => by simp at h⟩
  | cons name kind e fs xs ys h1 _ ih =>
    obtain ⟨zs, hz, hk⟩ := ih
    have hl := h1.length
    simp only [List.length_cons, List.length_nil] at hl
    refine ⟨xs ++ zs, h1.append hz, fun i k h4 hi => ?_⟩
    cases i with
    | zero =>
      rw [show 0 * 4 + k = k from by omega, show 0 * 6 + 2 + k = k + 1 + 1 from by omega, List.getElem?_append_left (by omega), List.cons_append, List.getElem?_cons_succ, List.cons_append, List.getElem?_cons_succ, List.getElem?_append_left (by omega)]
    | succ i =>
      have := hk i k h4 (by simpa using hi)
      rw [show (i + 1) * 4 + k = i * 4 + k + xs.length from by omega, show (i + 1) * 6 + 2 + k = i * 6 + 2 + k + xs.length + 1 + 1 from by omega, List.getElem?_append_right (by omega), List.cons_append, List.getElem?_cons_succ, List.cons_append, List.getElem?_cons_succ, List.getElem?_append_right (by omega), Nat.add_sub_cancel, Nat.add_sub_cancel]
      exact this
theorem take_four {ys : List Value} {i : Nat} {a b c d : Value} (h0 : ys[i * 4]? = some a) (h1 : ys[i * 4 + 1]? = some b) (h2 : ys[i * 4 + 2]? = some c) (h3 : ys[i * 4 + 3]? = some d) : ys.take ((i + 1) * 4) = ys.take (i * 4) ++ [a, b, c, d] := by
  rw [show (i + 1) * 4 = i * 4 + 1 + 1 + 1 + 1 from by omega, List.take_add_one, List.take_add_one, List.take_add_one, List.take_add_one, h0, h1, h2, h3]
  simp
end Go.Proofs.YtpkgingjmgakbaaDoor
