/-
  WHAT COMES FIRST (mathematics): needs by numbers, the greedy order, cycles.
-/
import Derived.Test.YtpkgingjmgakbaaDoorProg
import Derived.Test.YtpkgingjmgakbaaDoorP32
namespace Go.Proofs.YtpkgingjmgakbaaDoor

/-- The needs of one. -/
def ndA (nd : List (List Nat)) (i : Nat) : List Nat := nd[i]?.getD []
/-- It has no place yet, and all that it needs has one. -/
def Fre (nd : List (List Nat)) (d : List Nat) (i : Nat) : Prop := i < nd.length ∧ i ∉ d ∧ ∀ k ∈ ndA nd i, k ∈ d
/-- An order: each time the least that can come. -/
inductive Grd (nd : List (List Nat)) : List Nat → Prop
  | nil : Grd nd []
  | snoc (d : List Nat) (i : Nat) : Grd nd d → Fre nd d i → (∀ j, j < i → ¬ Fre nd d j) → Grd nd (d ++ [i])
/-- From one to another by needs. -/
inductive Rch (nd : List (List Nat)) : Nat → Nat → Prop
  | one (i k : Nat) : k ∈ ndA nd i → Rch nd i k
  | more (i k j : Nat) : k ∈ ndA nd i → Rch nd k j → Rch nd i j
theorem Rch.snoc {nd : List (List Nat)} {i k j : Nat} (h : Rch nd i k) (hj : j ∈ ndA nd k) : Rch nd i j := by
  induction h with
  | one i k hk => exact .more i k j hk (.one k j hj)
  | more i k m hk _ ih => exact .more i k j hk (ih hj)
theorem Rch.trans {nd : List (List Nat)} {i k j : Nat} (h : Rch nd i k) (hj : Rch nd k j) : Rch nd i j := by
  induction h with
  | one i k hk => exact .more i k j hk hj
  | more i k m hk _ ih => exact .more i k j hk (ih hj)
theorem nodup_len : ∀ (l m : List Nat), l.Nodup → (∀ x ∈ l, x ∈ m) → l.length ≤ m.length
  | [], m, _, _ => Nat.zero_le _
  | x :: l, m, hn, hs => by
    have hx := hs x (List.mem_cons_self ..)
    have hn' := List.nodup_cons.1 hn
    have := nodup_len l (m.erase x) hn'.2 (fun y hy => (List.mem_erase_of_ne (fun e : y = x => hn'.1 (e ▸ hy))).2 (hs y (List.mem_cons_of_mem _ hy)))
    rw [List.length_erase_of_mem hx] at this
    have : 0 < m.length := List.length_pos_of_mem hx
    simp only [List.length_cons]
    omega
theorem Grd.lt {nd : List (List Nat)} {d : List Nat} (h : Grd nd d) : ∀ i ∈ d, i < nd.length := by
  induction h with
  | nil => intro i hi; simp at hi
  | snoc d i _ hf _ ih =>
    intro j hj
    rcases List.mem_append.1 hj with hj | hj
    · exact ih j hj
    · rw [List.mem_singleton.1 hj]; exact hf.1
theorem Grd.nodup {nd : List (List Nat)} {d : List Nat} (h : Grd nd d) : d.Nodup := by
  induction h with
  | nil => exact List.nodup_nil
  | snoc d i _ hf _ ih =>
    refine List.nodup_append.2 ⟨ih, by simp, fun a ha b hb => ?_⟩
    rw [List.mem_singleton.1 hb]
    intro e
    exact hf.2.1 (e ▸ ha)
theorem Grd.len {nd : List (List Nat)} {d : List Nat} (h : Grd nd d) : d.length ≤ nd.length := by
  have := nodup_len d (List.range nd.length) h.nodup (fun x hx => List.mem_range.2 (h.lt x hx))
  rwa [List.length_range] at this
theorem Grd.all {nd : List (List Nat)} {d : List Nat} (h : Grd nd d) (hl : d.length = nd.length) {i : Nat} (hi : i < nd.length) : i ∈ d := by
  refine Decidable.byContradiction fun hn => ?_
  have := nodup_len (i :: d) (List.range nd.length) (List.nodup_cons.2 ⟨hn, h.nodup⟩) (fun x hx => by
    rcases List.mem_cons.1 hx with rfl | hx
    · exact List.mem_range.2 hi
    · exact List.mem_range.2 (h.lt x hx))
  rw [List.length_range, List.length_cons] at this
  omega
theorem Grd.closed {nd : List (List Nat)} {d : List Nat} (h : Grd nd d) : ∀ i ∈ d, (∀ k ∈ ndA nd i, k ∈ d) ∧ ¬ Rch nd i i ∧ ∀ j, Rch nd i j → j ∈ d := by
  induction h with
  | nil => intro i hi; simp at hi
  | snoc d i _ hf _ ih =>
    have hi : ∀ j, Rch nd i j → j ∈ d := fun j hj => by
      cases hj with
      | one _ _ hk => exact hf.2.2 j hk
      | more _ k _ hk hr => exact (ih k (hf.2.2 k hk)).2.2 j hr
    intro j hj
    rcases List.mem_append.1 hj with hj | hj
    · obtain ⟨h1, h2, h3⟩ := ih j hj
      exact ⟨fun k hk => List.mem_append_left _ (h1 k hk), h2, fun k hk => List.mem_append_left _ (h3 k hk)⟩
    · obtain rfl := List.mem_singleton.1 hj
      exact ⟨fun k hk => List.mem_append_left _ (hf.2.2 k hk), fun hr => hf.2.1 (hi j hr), fun k hk => List.mem_append_left _ (hi k hk)⟩
/-- All have places: nothing needs itself. -/
theorem Grd.acyclic {nd : List (List Nat)} {d : List Nat} (h : Grd nd d) (hl : d.length = nd.length) (i : Nat) : ¬ Rch nd i i := by
  intro hr
  by_cases hi : i < nd.length
  · exact (h.closed i (h.all hl hi)).2.1 hr
  · have hn : ndA nd i = [] := by unfold ndA; rw [List.getElem?_eq_none (by omega)]; rfl
    cases hr with
    | one _ _ hk => rw [hn] at hk; simp at hk
    | more _ k _ hk _ => rw [hn] at hk; simp at hk
/-- Among so many and one more two are the same. -/
theorem pigeon (n : Nat) (f : Nat → Nat) (hf : ∀ i, i ≤ n → f i < n) : ∃ i j, i < j ∧ j ≤ n ∧ f i = f j := by
  refine Classical.byContradiction fun hc => ?_
  have hne : ∀ i j, i < j → j ≤ n → f i ≠ f j := fun i j hij hj e => hc ⟨i, j, hij, hj, e⟩
  have hnd : ((List.range (n + 1)).map f).Nodup := by
    rw [List.nodup_iff_pairwise_ne, List.pairwise_map, List.pairwise_iff_getElem]
    intro i j hi hj hij
    simp only [List.length_range] at hi hj
    simp only [List.getElem_range]
    exact hne i j hij (by omega)
  have := nodup_len _ (List.range n) hnd (fun x hx => by
    obtain ⟨i, hi, rfl⟩ := List.mem_map.1 hx
    exact List.mem_range.2 (hf i (by have := List.mem_range.1 hi; omega)))
  simp at this
  omega
def iter (g : Nat → Nat) : Nat → Nat → Nat
  | 0, x => x
  | k + 1, x => g (iter g k x)
theorem iter_rch {nd : List (List Nat)} {g : Nat → Nat} {x : Nat} (h : ∀ k, g (iter g k x) ∈ ndA nd (iter g k x)) : ∀ (a b : Nat), a < b → Rch nd (iter g a x) (iter g b x)
  | a, 0, hb => by omega
  | a, b + 1, hb => by
    by_cases e : a = b
    · subst e
      exact .one _ _ (h a)
    · exact (iter_rch h a b (by omega)).snoc (h b)
/-- Not all have places, and none can get one: something needs itself. -/
theorem Grd.cycle {nd : List (List Nat)} {d : List Nat} (hs : ∀ i, ¬ Fre nd d i) (hl : d.length < nd.length) (hk : ∀ i, ∀ k ∈ ndA nd i, k < nd.length) : ∃ i, i < nd.length ∧ Rch nd i i := by
  obtain ⟨x, hx, hxd⟩ : ∃ x, x < nd.length ∧ x ∉ d := by
    refine Classical.byContradiction fun hc => ?_
    have hall : ∀ x ∈ List.range nd.length, x ∈ d := fun x hx => Decidable.byContradiction fun hn => hc ⟨x, List.mem_range.1 hx, hn⟩
    have := nodup_len (List.range nd.length) d List.nodup_range hall
    rw [List.length_range] at this
    omega
  have hex : ∀ i, ∃ k, i < nd.length → i ∉ d → k ∈ ndA nd i ∧ k ∉ d := fun i => by
    by_cases hi : i < nd.length ∧ i ∉ d
    · refine Classical.byContradiction fun hc => hs i ⟨hi.1, hi.2, fun k hk => Decidable.byContradiction fun hn => hc ⟨k, fun _ _ => ⟨hk, hn⟩⟩⟩
    · exact ⟨0, fun h1 h2 => absurd ⟨h1, h2⟩ hi⟩
  obtain ⟨g, hg⟩ := Classical.axiomOfChoice hex
  have hin : ∀ k, iter g k x < nd.length ∧ iter g k x ∉ d := fun k => by
    induction k with
    | zero => exact ⟨hx, hxd⟩
    | succ k ih =>
      have := hg _ ih.1 ih.2
      exact ⟨hk _ _ this.1, this.2⟩
  obtain ⟨a, b, hab, _, e⟩ := pigeon nd.length (fun k => iter g k x) (fun k _ => (hin k).1)
  have := iter_rch (nd := nd) (fun k => (hg _ (hin k).1 (hin k).2).1) a b hab
  rw [← e] at this
  exact ⟨_, (hin a).1, this⟩
/-- For how many needs one waits; -1: it has its place. -/
def wt (nd : List (List Nat)) (d : List Nat) (i : Nat) : Int := if i ∈ d then -1 else (((ndA nd i).countP fun k => !d.contains k : Nat) : Int)
theorem wt_fre {nd : List (List Nat)} {d : List Nat} {i : Nat} (hi : i < nd.length) : wt nd d i = 0 ↔ Fre nd d i := by
  unfold wt Fre
  by_cases h : i ∈ d
  · rw [if_pos h]
    exact ⟨fun h => by omega, fun hf => absurd h hf.2.1⟩
  · rw [if_neg h]
    constructor
    · intro h0
      have h1 : (ndA nd i).countP (fun k => !d.contains k) = 0 := by omega
      rw [List.countP_eq_zero] at h1
      exact ⟨hi, h, fun k hk => by have := h1 k hk; simpa using this⟩
    · intro hf
      have h1 : (ndA nd i).countP (fun k => !d.contains k) = 0 := by
        rw [List.countP_eq_zero]
        intro k hk
        have := hf.2.2 k hk
        simpa using this
      omega
theorem countP_less (d : List Nat) (x : Nat) (hx : x ∉ d) : ∀ l : List Nat, l.countP (fun k => !(d ++ [x]).contains k) + l.count x = l.countP (fun k => !d.contains k)
  | [] => rfl
  | y :: l => by
    have ih := countP_less d x hx l
    rw [List.countP_cons, List.countP_cons, List.count_cons]
    by_cases e : y = x
    · subst e
      have h1 : (d ++ [y]).contains y = true := by simp
      have h2 : d.contains y = false := by simpa using hx
      rw [h1, h2]
      simp only [BEq.rfl, Bool.not_true, Bool.not_false, if_true, Bool.false_eq_true, if_false]
      omega
    · have h1 : (d ++ [x]).contains y = d.contains y := by
        simp [e]
      rw [h1]
      have h3 : (y == x) = false := beq_eq_false_iff_ne.2 e
      simp only [h3, Bool.false_eq_true, if_false]
      omega
theorem wt_next {nd : List (List Nat)} {d : List Nat} {x : Nat} (hg : Grd nd d) (hx : Fre nd d x) (u : Nat) : (if u = x then -1 else wt nd d u) - ((ndA nd u).count x : Nat) = wt nd (d ++ [x]) u := by
  have hz : ∀ u, (∀ k ∈ ndA nd u, k ∈ d) → (ndA nd u).count x = 0 := fun u hu => List.count_eq_zero.2 fun hm => hx.2.1 (hu x hm)
  unfold wt
  by_cases e : u = x
  · subst e
    rw [if_pos rfl, if_pos (by simp), hz u hx.2.2]
    rfl
  · rw [if_neg e]
    by_cases hd : u ∈ d
    · rw [if_pos hd, if_pos (List.mem_append_left _ hd), hz u (hg.closed u hd).1]
      rfl
    · rw [if_neg hd, if_neg (by simp [hd, e])]
      have := countP_less d x hx.2.1 (ndA nd u)
      omega
end Go.Proofs.YtpkgingjmgakbaaDoor

/-
  package order: needsOf BY CONTRACT.
-/
namespace Go.Proofs.YtpkgingjmgakbaaDoor
open Go.RowKit Go.Maps

/-- The numbers of the first flows by their names. -/
def numN (fs : List Fw) : Nat → List UInt8 → Option Nat
  | 0 => fun _ => none
  | j + 1 => match fs[j]? with
    | some x => fun s => if s = x.name.data.toList then some j else numN fs j s
    | none => numN fs j
def numI (fs : List Fw) (j : Nat) : List UInt8 → Option Int := fun s => (numN fs j s).map (fun k : Nat => (k : Int))
theorem numI_step {fs : List Fw} {j : Nat} {x : Fw} (h : fs[j]? = some x) : kStep (numI fs j) (x.name, (j : Int)) = numI fs (j + 1) := by
  funext s
  unfold kStep numI
  simp only [numN, h]
  by_cases e : s = x.name.data.toList
  · rw [if_pos e, if_pos e]; rfl
  · rw [if_neg e, if_neg e]
theorem numN_lt {fs : List Fw} : ∀ {j : Nat} {s : List UInt8} {k : Nat}, numN fs j s = some k → k < j ∧ ∃ x, fs[k]? = some x ∧ x.name.data.toList = s
  | 0, s, k, h => by simp [numN] at h
  | j + 1, s, k, h => by
    unfold numN at h
    cases hx : fs[j]? with
    | none =>
      rw [hx] at h
      obtain ⟨h1, h2⟩ := numN_lt h
      exact ⟨by omega, h2⟩
    | some x =>
      rw [hx] at h
      simp only at h
      by_cases e : s = x.name.data.toList
      · rw [if_pos e] at h
        obtain rfl := Option.some.inj h
        exact ⟨by omega, x, hx, e.symm⟩
      · rw [if_neg e] at h
        obtain ⟨h1, h2⟩ := numN_lt h
        exact ⟨by omega, h2⟩
/-- What the flows of a program need at once, by numbers. -/
def ndF (fs : List Fw) : List (List Nat) := fs.map fun f => (onE f.e).filterMap (numN fs fs.length)
def ndJ (fs : List Fw) (j : Nat) : List (List Int) := ((fs.take j).map fun f => (onE f.e).filterMap (numI fs fs.length)) ++ List.replicate (fs.length - j) []
theorem ndJ_length {fs : List Fw} {j : Nat} (h : j ≤ fs.length) : (ndJ fs j).length = fs.length := by
  simp [ndJ]
  omega
theorem ndJ_at {fs : List Fw} {j : Nat} (h : j < fs.length) : (ndJ fs j)[j]? = some [] := by
  unfold ndJ
  have e1 : ((fs.take j).map fun f => (onE f.e).filterMap (numI fs fs.length)).length = j := by simp; omega
  rw [List.getElem?_append_right (by omega), e1, Nat.sub_self, List.getElem?_replicate, if_pos (by omega)]
theorem ndJ_step {fs : List Fw} {j : Nat} {x : Fw} (h : fs[j]? = some x) : (ndJ fs j).set j ([] ++ (onE x.e).filterMap (numI fs fs.length)) = ndJ fs (j + 1) := by
  have hj := (List.getElem?_eq_some_iff.1 h).1
  unfold ndJ
  rw [List.set_append_right _ _ (by simp; omega)]
  have e1 : j - ((fs.take j).map fun f => (onE f.e).filterMap (numI fs fs.length)).length = 0 := by simp; omega
  rw [e1, show fs.length - j = (fs.length - (j + 1)) + 1 from by omega, List.replicate_succ, List.set_cons_zero, List.take_add_one, h]
  simp
theorem ndJ_all (fs : List Fw) : ndJ fs fs.length = (ndF fs).map fun l => l.map fun k => ((k : Nat) : Int) := by
  unfold ndJ ndF numI
  rw [List.take_length, Nat.sub_self, List.replicate_zero, List.append_nil, List.map_map]
  refine List.map_congr_left fun f _ => ?_
  simp only [Function.comp_apply, List.map_filterMap]
theorem RwsAt.add {w : World} {base nb : Nat} {F : Nat → Prop} {ls : List (List Int)} (h : RwsAt w base nb F ls) (o : Obj) : RwsAt (w.alloc o) base nb (fun k => F k ∨ k = w.heap.size) ls := by
  have h' := h.alloc o
  obtain ⟨vs, h1, h2, h3, h4, h5, h6⟩ := h'
  obtain ⟨us, g1, g2, g3, g4, g5, g6⟩ := h
  have hn : (w.alloc o).heap[nb]? = w.heap[nb]? := ((Below.refl w.heap.size w).alloc (Nat.le_refl _) o).block nb (Array.getElem?_eq_some_iff.1 g1).1
  have he : vs = us := by
    rw [hn, g1] at h1
    have := Option.some.inj h1
    injection this with e1
    exact (List.toArray_inj e1).symm
  subst he
  refine ⟨vs, h1, h2, h3, fun k hk => ?_, fun i v l hv hl => ⟨(h5 i v l hv hl).1, fun k hk => ⟨((h5 i v l hv hl).2 k hk).1, fun hF => ?_⟩⟩, h6⟩
  · rcases hk with hk | rfl
    · exact h4 k hk
    · simp
  · rcases hF with hF | rfl
    · exact ((h5 i v l hv hl).2 k hk).2 hF
    · have := ((g5 i v l hv hl).1.lt _ hk).2
      omega
theorem repl_at {α : Type} {n i : Nat} {x y : α} (h : (List.replicate n x)[i]? = some y) : y = x := by
  rw [List.getElem?_replicate] at h
  split at h
  · exact (Option.some.inj h).symm
  · cases h
theorem RwsAt.made {w : World} {base : Nat} {F : Nat → Prop} (n : Nat) (hb : base ≤ w.heap.size) (hF : ∀ k, F k → k < w.heap.size) : RwsAt (w.alloc (.cells (Array.replicate n (.slice none 0 0)) 22)) base w.heap.size F (List.replicate n []) := by
  refine ⟨List.replicate n (.slice none 0 0), ?_, by simp, hb, fun k hk => by have := hF k hk; simp; omega, fun i v l hv hl => ?_, fun i j v u _ hv _ k hk => ?_⟩
  · rw [heap_alloc_new]
    simp
  · obtain rfl := repl_at hv
    obtain rfl := repl_at hl
    exact ⟨World.ownsRow_nil _ _ _ _, fun k hk => by simp [Value.ownBlock] at hk⟩
  · obtain rfl := repl_at hv
    simp [Value.ownBlock] at hk
theorem Tryd.infoSlI : (Tryd.prog.info? 22).map (fun i => (i.zero, i.size, i.bytes)) = some (some (.slice none 0 0), 1, 24) := by kernel_rfl
theorem Tryd.infoBoo : (Tryd.prog.info? 4).map (fun i => (i.zero, i.size, i.bytes)) = some (some (.bool false), 1, 1) := by kernel_rfl
theorem made_one (z : Value) (n : Nat) (h : z.cells = #[z]) : madeCells z.cells (n * 1) = Array.replicate n z := by
  apply Array.toList_inj.1
  rw [Nat.mul_one, h]
  simpa using toList_madeCells_one z n
/-- A slice that is made, whatever one cell holds. -/
theorem make_row {t e : TypeId} {z : Value} {by' : Nat} (ht : Tryd.prog.underlying t = some (.slice e)) (hi : (Tryd.prog.info? e).map (fun i => (i.zero, i.size, i.bytes)) = some (some z, 1, by')) (hz : z.cells = #[z]) (n : Nat) (hn : n ≤ 100000) (hb : by' ≤ 24) (w : World) :
    (Instr.makeSlice t (.int .i64 n) (.int .i64 n)).run Tryd.prog w = .ok (.slice (some ⟨w.heap.size, 0, none⟩) n n) (w.alloc (.cells (Array.replicate n z) e)) := by
  obtain ⟨i0, hi0, hz0, hz1, hz2⟩ := info_parts hi
  have h2 : i0.bytes * n ≤ 24 * 100000 := Nat.mul_le_mul (by omega) hn
  have := run_makeSlice w t e i0 z ht hi0 hz0 .i64 .i64 n n (by omega) (Int.le_refl _) (by rw [hz1]; simp; omega) (by
    have h3 : ((i0.bytes * n : Nat) : Int) ≤ 281474976710656 := by omega
    rwa [Int.natCast_mul] at h3) (by omega)
  rw [hz1, Int.toNat_natCast, made_one z n hz] at this
  exact this
end Go.Proofs.YtpkgingjmgakbaaDoor
