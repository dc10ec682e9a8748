/-
  package flat: areFormed BY CONTRACT: each place once, over a list of what is left to do.
-/
import Derived.Test.YtpkgingjmgakbaaDoorP21
import Derived.Test.YtpkgingjmgakbaaDoorP23
import Derived.Test.YtpkgingjmgakbaaDoorP25
import Derived.WalkSmall
namespace Go.Proofs.YtpkgingjmgakbaaDoor
open Go.RowKit Go.Maps

/-- Places of an elder world. -/
def PlOld (w : World) (a : Addr) : Prop := PlaceIn w a ∧ a.block < w.heap.size
theorem PlOld.now {w wr : World} (hb : Below w.heap.size w wr) (a : Addr) (h : PlOld w a) : PlaceIn wr a := by
  obtain ⟨⟨cs, t, hc⟩, hl⟩ := h
  exact ⟨cs, t, (hb.block _ hl).trans hc⟩
/-- What areFormed holds: the list of what is left to do (ns, that is wk), how often places were counted (f), what is being worked on (X). -/
structure AfS (kd : List UInt8 → Option Int) (w : World) (S : Nat → Prop) (Q : List Addr) (KP : Nat) (l : List Ex) (rs : List Nd) (wr : World) (X : Nd → Prop) (v : Value) (wk : List Ex) (ns : List Nd) (f : Addr → Int) (bnd : Int) : Prop where
  row : wr.ownsRow w.heap.size 32 4 v ns.length (cellsL ns)
  ne : v.ownBlock ≠ some KP
  mp : PlAt wr KP (PlOld w) f
  kp : w.heap.size ≤ KP
  below : Below w.heap.size w wr
  cl : Cl w S Q wk ns
  nn : ∀ a, 0 ≤ f a ∧ f a ≤ bnd
  done : ∀ a, f a ≠ 0 → ∃ q, NdAt w a q ∧ (q ∈ ns ∨ X q ∨ Upto kd f q q.m)
  roots : ∀ q ∈ rs, q ∈ ns ∨ X q ∨ Upto kd f q q.m
  tru : ∀ e ∈ wk, (smE e ∧ szE e ≤ 100000) ∧ (fmL kd l = true → fmE kd e = true)
theorem PlAt.lt {w : World} {b : Nat} {I : Addr → Prop} {f : Addr → Int} (h : PlAt w b I f) : b < w.heap.size := by
  obtain ⟨es, clock, hb, _⟩ := h
  exact (Array.getElem?_eq_some_iff.1 hb).1
theorem PlAt.keep {w w' : World} {b : Nat} {I : Addr → Prop} {f : Addr → Int} (h : PlAt w b I f) (hb : w'.heap[b]? = w.heap[b]?) : PlAt w' b I f := by
  obtain ⟨es, clock, h0, h1⟩ := h
  exact ⟨es, clock, hb.trans h0, h1⟩
theorem smL_at : ∀ {l : List Ex} {i : Nat} {e : Ex}, smL l → l[i]? = some e → smE e
  | [], i, e, _, h => by simp at h
  | x :: l, 0, e, hs, h => by
    obtain rfl : x = e := by simpa using h
    unfold smL at hs
    exact hs.1
  | x :: l, i + 1, e, hs, h => by
    unfold smL at hs
    exact smL_at hs.2 (by simpa using h)
theorem fmL_at {kd : List UInt8 → Option Int} : ∀ {l : List Ex} {i : Nat} {e : Ex}, fmL kd l = true → l[i]? = some e → fmE kd e = true
  | [], i, e, _, h => by simp at h
  | x :: l, 0, e, hs, h => by
    obtain rfl : x = e := by simpa using h
    unfold fmL at hs
    rw [Bool.and_eq_true] at hs
    exact hs.1
  | x :: l, i + 1, e, hs, h => by
    unfold fmL at hs
    rw [Bool.and_eq_true] at hs
    exact fmL_at hs.2 (by simpa using h)
theorem szL_at : ∀ {l : List Ex} {i : Nat} {e : Ex}, l[i]? = some e → szE e ≤ szL l
  | [], i, e, h => by simp at h
  | x :: l, 0, e, h => by
    obtain rfl : x = e := by simpa using h
    simp only [szL]
    omega
  | x :: l, i + 1, e, h => by
    have := szL_at (l := l) (i := i) (e := e) (by simpa using h)
    simp only [szL]
    omega
theorem szL_len : ∀ l : List Ex, l.length ≤ szL l
  | [] => by simp
  | .mk op n s es :: l => by
    have := szL_len l
    simp only [szL, szE, List.length_cons]
    omega
section
variable {kd : List UInt8 → Option Int} {w wr w' : World} {S : Nat → Prop} {Q : List Addr} {KP : Nat} {l : List Ex} {rs : List Nd} {X : Nd → Prop} {v : Value} {wk : List Ex} {ns : List Nd} {f : Addr → Int} {bnd : Int}
theorem AfS.wide (h : AfS kd w S Q KP l rs wr X v wk ns f bnd) {bnd' : Int} (hb : bnd ≤ bnd') : AfS kd w S Q KP l rs wr X v wk ns f bnd' :=
  ⟨h.row, h.ne, h.mp, h.kp, h.below, h.cl, fun a => ⟨(h.nn a).1, Int.le_trans (h.nn a).2 hb⟩, h.done, h.roots, h.tru⟩
theorem Upto.next {q : Nd} {b off i : Nat} {g : Addr → Int} (h : Upto kd f q i) (hg : ∀ a, f a ≠ 0 → g a ≠ 0) (ho : q.o = some ⟨b, off, none⟩) (hi : g ⟨b, off + i * 4, none⟩ ≠ 0) : Upto kd g q (i + 1) := by
  refine ⟨h.1, fun b' off' j e hj => ?_⟩
  by_cases hji : j < i
  · exact hg _ (h.2 b' off' j e hji)
  · obtain rfl : j = i := by omega
    rw [ho] at e
    injection e with e
    injection e with e1 e2
    subst e1 e2
    exact hi
theorem AfS.alloc (h : AfS kd w S Q KP l rs wr X v wk ns f bnd) (o : Obj) : AfS kd w S Q KP l rs (wr.alloc o) X v wk ns f bnd :=
  ⟨h.row.alloc o, h.ne, h.mp.keep (((Below.refl wr.heap.size wr).alloc (Nat.le_refl _) o).block _ h.mp.lt), h.kp, h.below.alloc h.below.size o, h.cl, h.nn, h.done, h.roots, h.tru⟩
theorem AfS.beyond (h : AfS kd w S Q KP l rs wr X v wk ns f bnd) (hb : Below wr.heap.size wr w') : AfS kd w S Q KP l rs w' X v wk ns f bnd :=
  ⟨owns_keep h.row (fun k hk => hb.block k (h.row.lt k hk).2), h.ne, h.mp.keep (hb.block _ h.mp.lt), h.kp, h.below.trans (hb.mono h.below.size), h.cl, h.nn, h.done, h.roots, h.tru⟩
theorem AfS.pop {q : Nd} {g cap : Nat} (h : AfS kd w S Q KP l rs wr (fun _ => False) (.slice (some ⟨g, 0, none⟩) (ns.length + 1) cap) wk (ns ++ [q]) f bnd) : ∃ wk' e, Cl w S Q [e] [q] ∧ (smE e ∧ szE e ≤ 100000) ∧ (fmL kd l = true → fmE kd e = true) ∧ AfS kd w S Q KP l rs wr (fun r => r = q) (.slice (some ⟨g, 0, none⟩) ns.length cap) wk' ns f bnd := by
  obtain ⟨wk', e, rfl, c1, c2⟩ := h.cl.split
  have ht := h.tru e (by simp)
  have hr := h.row
  rw [List.length_append, cellsL_app] at hr
  have hm : ∀ r, r ∈ ns ++ [q] ∨ False ∨ Upto kd f r r.m → r ∈ ns ∨ r = q ∨ Upto kd f r r.m := fun r hr => by
    rcases hr with hr | hr | hr
    · rcases List.mem_append.1 hr with hr | hr
      · exact .inl hr
      · exact .inr (.inl (List.mem_singleton.1 hr))
    · exact hr.elim
    · exact .inr (.inr hr)
  exact ⟨wk', e, c2, ht.1, ht.2, ownsRow_pop (cellsL_length _) hr, h.ne, h.mp, h.kp, h.below, c1, h.nn, fun a ha => by obtain ⟨r, r1, r2⟩ := h.done a ha; exact ⟨r, r1, hm r r2⟩, fun r hr => hm r (h.roots r hr), fun e he => h.tru e (List.mem_append_left _ he)⟩
theorem AfS.put (h : AfS kd w S Q KP l rs wr X v wk ns f bnd) {a : Addr} {x : Int} (hx : x = f a + 1) {q : Nd} (hq : NdAt w a q) (hp : PlAt w' KP (PlOld w) (fun y => if y = a then x else f y)) (hg : wr.grownBy w' (some KP)) : AfS kd w S Q KP l rs w' (fun r => X r ∨ r = q) v wk ns (fun y => if y = a then x else f y) (bnd + 1) := by
  have hmo : ∀ y, f y ≠ 0 → (if y = a then x else f y) ≠ 0 := fun y hy => by
    by_cases e : y = a
    · rw [if_pos e]; have := (h.nn a).1; omega
    · rw [if_neg e]; exact hy
  have hm : ∀ r, r ∈ ns ∨ X r ∨ Upto kd f r r.m → r ∈ ns ∨ (X r ∨ r = q) ∨ Upto kd (fun y => if y = a then x else f y) r r.m := fun r hr => by
    rcases hr with hr | hr | hr
    · exact .inl hr
    · exact .inr (.inl (.inl hr))
    · exact .inr (.inr (hr.more hmo))
  refine ⟨h.row.kept hg (.inr h.ne), h.ne, hp, h.kp, h.below.grown hg h.below.size (fun k hk => Option.some.inj hk ▸ h.kp), h.cl, fun y => ?_, fun y hy => ?_, fun r hr => hm r (h.roots r hr), h.tru⟩
  · have h1 := h.nn y
    have h2 := h.nn a
    split <;> omega
  · by_cases e : y = a
    · exact ⟨q, by rw [e]; exact hq, .inr (.inl (.inr rfl))⟩
    · rw [if_neg e] at hy
      obtain ⟨r, r1, r2⟩ := h.done y hy
      exact ⟨r, r1, hm r r2⟩
theorem AfS.again (h : AfS kd w S Q KP l rs wr X v wk ns f bnd) {a : Addr} {x : Int} (hx : x = f a + 1) (h0 : f a ≠ 0) (hp : PlAt w' KP (PlOld w) (fun y => if y = a then x else f y)) (hg : wr.grownBy w' (some KP)) : AfS kd w S Q KP l rs w' X v wk ns (fun y => if y = a then x else f y) (bnd + 1) := by
  obtain ⟨q, hq, hq2⟩ := h.done a h0
  have h1 := h.put hx hq hp hg
  have hmo : ∀ y, f y ≠ 0 → (if y = a then x else f y) ≠ 0 := fun y hy => by
    by_cases e : y = a
    · rw [if_pos e]; have := (h.nn a).1; omega
    · rw [if_neg e]; exact hy
  have hq3 : q ∈ ns ∨ X q ∨ Upto kd (fun y => if y = a then x else f y) q q.m := by
    rcases hq2 with hr | hr | hr
    · exact .inl hr
    · exact .inr (.inl hr)
    · exact .inr (.inr (hr.more hmo))
  have hm : ∀ r, r ∈ ns ∨ (X r ∨ r = q) ∨ Upto kd (fun y => if y = a then x else f y) r r.m → r ∈ ns ∨ X r ∨ Upto kd (fun y => if y = a then x else f y) r r.m := fun r hr => by
    rcases hr with hr | (hr | hr) | hr
    · exact .inl hr
    · exact .inr (.inl hr)
    · rw [hr]; exact hq3
    · exact .inr (.inr hr)
  exact ⟨h1.row, h1.ne, h1.mp, h1.kp, h1.below, h1.cl, h1.nn, fun y hy => by obtain ⟨r, r1, r2⟩ := h1.done y hy; exact ⟨r, r1, hm r r2⟩, fun r hr => hm r (h1.roots r hr), h1.tru⟩
theorem AfS.push {q : Nd} {e : Ex} {g cap : Nat} (h : AfS kd w S Q KP l rs wr (fun r => X r ∨ r = q) v wk ns f bnd) (hc : Cl w S Q [e] [q]) (he : (smE e ∧ szE e ≤ 100000) ∧ (fmL kd l = true → fmE kd e = true)) (ho : w'.ownsRow w.heap.size 32 4 (.slice (some ⟨g, 0, none⟩) (ns.length + 1) cap) (ns.length + 1) (cellsL ns ++ cellsN q)) (hg : wr.grownBy w' v.ownBlock) (ha : v.ownBlock = some g ∨ g = wr.heap.size) : AfS kd w S Q KP l rs w' X (.slice (some ⟨g, 0, none⟩) (ns ++ [q]).length cap) (wk ++ [e]) (ns ++ [q]) f bnd := by
  have hm : ∀ r, r ∈ ns ∨ (X r ∨ r = q) ∨ Upto kd f r r.m → r ∈ ns ++ [q] ∨ X r ∨ Upto kd f r r.m := fun r hr => by
    rcases hr with hr | (hr | hr) | hr
    · exact .inl (List.mem_append_left _ hr)
    · exact .inr (.inl hr)
    · exact .inl (List.mem_append_right _ (by rw [hr]; exact List.mem_singleton_self _))
    · exact .inr (.inr hr)
  have hlt := h.mp.lt
  refine ⟨by rw [List.length_append, cellsL_app]; exact ho, fun hh => ?_, h.mp.keep (hg.block _ hlt fun e => h.ne e.symm), h.kp, h.below.grown hg h.below.size (fun k hk => (h.row.lt k hk).1), h.cl.append hc, h.nn, fun a ha => by obtain ⟨r, r1, r2⟩ := h.done a ha; exact ⟨r, r1, hm r r2⟩, fun r hr => hm r (h.roots r hr), fun x hx => ?_⟩
  · obtain rfl : g = KP := by simpa [Value.ownBlock] using hh
    rcases ha with ha | rfl
    · exact h.ne ha
    · omega
  · rcases List.mem_append.1 hx with hx | hx
    · exact h.tru x hx
    · rw [List.mem_singleton.1 hx]; exact he
theorem AfS.over {q : Nd} (h : AfS kd w S Q KP l rs wr (fun r => r = q) v wk ns f bnd) (hq : Upto kd f q q.m) : AfS kd w S Q KP l rs wr (fun _ => False) v wk ns f bnd := by
  have hm : ∀ r, r ∈ ns ∨ r = q ∨ Upto kd f r r.m → r ∈ ns ∨ False ∨ Upto kd f r r.m := fun r hr => by
    rcases hr with hr | hr | hr
    · exact .inl hr
    · rw [hr]; exact .inr (.inr hq)
    · exact .inr (.inr hr)
  exact ⟨h.row, h.ne, h.mp, h.kp, h.below, h.cl, h.nn, fun y hy => by obtain ⟨r, r1, r2⟩ := h.done y hy; exact ⟨r, r1, hm r r2⟩, fun r hr => hm r (h.roots r hr), h.tru⟩
theorem AfS.end (h : AfS kd w S Q KP l rs wr (fun _ => False) v wk [] f bnd) (hc : Cl w S Q l rs) : fmL kd l = true := by
  have hm : ∀ r : Nd, r ∈ [] ∨ False ∨ Upto kd f r r.m → Upto kd f r r.m := fun r hr => by
    rcases hr with hr | hr | hr
    · simp at hr
    · exact hr.elim
    · exact hr
  exact hc.formed (f := f) (fun a ha => by obtain ⟨r, r1, r2⟩ := h.done a ha; exact ⟨r, r1, hm r r2⟩) (fun r hr => hm r (h.roots r hr))
end
end Go.Proofs.YtpkgingjmgakbaaDoor
