/-
  package flow: Compile BY CONTRACT.
-/
import Derived.Test.YtiejfopholdbnaaGreatDoorQ45
import Derived.BigQuiet
namespace Go.Proofs.YtiejfopholdbnaaGreatDoor
open Go.RowKit Go.Maps
set_option maxRecDepth 100000
set_option maxHeartbeats 4000000

theorem Tryz.infoOper : (Tryz.prog.info? 128).map (fun i => (i.zero, i.size, i.bytes)) = some (some .nilFunc, 1, 8) := by kernel_rfl
theorem zero_op (w : World) : (zeroValue 128).run Tryz.prog w = .ok .nilFunc w := by kernel_rfl
mutual
theorem plT_op (fl : List UInt8 → Option Int) : ∀ (e : Ex) (m : Pm), smE e → ∀ s ∈ (plT fl e m).1.ps, s ∈ m.ps ∨ s.op.size ≤ maxLen
 | .mk op n s l, m, h, t, ht => by
  unfold smE at h
  unfold plT plO at ht
  split at ht
  all_goals
   simp only [List.mem_append, List.mem_singleton] at ht
   rcases ht with h1 | h1
   ·exact plL_op fl l m h.2.2 t h1
   ·rw [h1]; exact .inr h.1
theorem plL_op (fl : List UInt8 → Option Int) : ∀ (l : List Ex) (m : Pm), smL l → ∀ s ∈ (plL fl l m).1.ps, s ∈ m.ps ∨ s.op.size ≤ maxLen
 | [], m, _, t, ht => .inl (by unfold plL at ht; exact ht)
 | e :: es, m, h, t, ht => by
  unfold smL at h
  unfold plL at ht
  rcases plL_op fl es (plT fl e m).1 h.2 t ht with h1 | h1
  ·exact plT_op fl e m h.1 t h1
  ·exact .inr h1
end
theorem nuF_op (fl : List UInt8 → Option Int) : ∀ (l : List Fw) (s : Pm × (List UInt8 → Option Int)), smL (l.map fun f => f.e) → ∀ t ∈ (nuF fl l s).1.ps, t ∈ s.1.ps ∨ t.op.size ≤ maxLen
 | [], s, _, t, ht => .inl ht
 | x :: l, s, h, t, ht => by
  rw [List.map_cons] at h
  unfold smL at h
  unfold nuF at ht
  rcases nuF_op fl l _ h.2 t ht with h1 | h1
  ·exact plT_op fl x.e s.1 h.1 t h1
  ·exact .inr h1
theorem puM_op {p : Pg} (hok : PgOk p) (fl : List UInt8 → Option Int) : ∀ t ∈ (puM p fl).ps, t.op.size ≤ maxLen := fun t ht => by
 have hs := hok.small
 unfold termsP at hs
 have a0 := (smL_app hs).1
 have a1 := smL_app (smL_app hs).2
 rcases plL_op fl p.checks _ a1.2 t ht with h1 | h1
 ·rcases plL_op fl p.asserts _ a1.1 t h1 with h2 | h2
  ·rcases nuF_op fl p.fs _ a0 t h2 with h3 | h3
   ·rw [(List.mem_replicate.1 h3).2]
    unfold maxLen; decide
   ·exact h3
  ·exact h2
 ·exact h1
theorem rsQ_op (fp : List UInt8 → Option Int) (s : ByteArray) (q : Pq) : (rsQ fp s q).op = q.op := by
 unfold rsQ
 split <;> rfl
theorem pln_op {p : Pg} (hok : PgOk p) (fl : List UInt8 → Option Int) (ts : List Nat) (qs : List Int) {j : Nat} {q : Pq} (h : (plnOf p fl ts qs).ps[j]? = some q) : q.op.size ≤ maxLen := by
 have h1 : (kdP (p.ins.map Ex.n ++ qs) (puP p fl))[j]? = some q := h
 rw [kdP_at] at h1
 unfold puP rsP at h1
 rw [List.getElem?_mapIdx] at h1
 cases hp : (puM p fl).ps[j]? with
 | none => rw [hp] at h1; cases h1
 | some q0 =>
  rw [hp] at h1
  obtain rfl := Option.some.inj h1
  show (rsQ _ _ q0).op.size ≤ maxLen
  rw [rsQ_op]
  exact puM_op hok fl q0 (List.mem_of_getElem? hp)
def doOf (f : List UInt8 → Option Value) (q : Pq) : Value := (f q.op.data.toList).getD .nilFunc
theorem DoF.one {w : World} {f : List UInt8 → Option Value} (h : DoF w f) (q : Pq) : (doOf f q).oneCell' = true := by
 unfold doOf
 cases hr : reckoningsF q.op.data.toList with
 | some v => obtain ⟨p, e, _⟩ := h.1 _ _ hr; rw [e]; rfl
 | none =>
  cases hd : divisionsF q.op.data.toList with
  | some v => obtain ⟨p, e, _⟩ := h.2.1 _ _ hd; rw [e]; rfl
  | none =>
   cases ht : truthsF q.op.data.toList with
   | some v => obtain ⟨p, e, _⟩ := h.2.2.1 _ _ ht; rw [e]; rfl
   | none =>
    rw [h.2.2.2 _ hr hd ht]
    unfold lit3F fset fnone
    split
    ·rfl
    ·split
     ·rfl
     ·split <;> rfl
theorem DoF.shape {w : World} {f : List UInt8 → Option Value} (h : DoF w f) (q : Pq) : doOf f q = .nilFunc ∨ ∃ i cs, doOf f q = .func (.func i) #[] cs := by
 unfold doOf
 cases hr : reckoningsF q.op.data.toList with
 | some v => obtain ⟨p, e, _⟩ := h.1 _ _ hr; rw [e]; exact .inr ⟨_, _, rfl⟩
 | none =>
  cases hd : divisionsF q.op.data.toList with
  | some v => obtain ⟨p, e, _⟩ := h.2.1 _ _ hd; rw [e]; exact .inr ⟨_, _, rfl⟩
  | none =>
   cases ht : truthsF q.op.data.toList with
   | some v => obtain ⟨p, e, _⟩ := h.2.2.1 _ _ ht; rw [e]; exact .inr ⟨_, _, rfl⟩
   | none =>
    rw [h.2.2.2 _ hr hd ht]
    unfold lit3F fset fnone
    split
    ·exact .inr ⟨_, _, rfl⟩
    ·split
     ·exact .inr ⟨_, _, rfl⟩
     ·split
      ·exact .inr ⟨_, _, rfl⟩
      ·exact .inl rfl
def CodeAt (w : World) (C : Nat) (q : Pln) (b n : Int) : Prop :=
 ∃ (B M : Nat) (dv : Value) (f : List UInt8 → Option Value), w.heap[C]? = some (.cells #[.pointer (some ⟨B, 0, none⟩), dv, .map (some M)] 180 (0, 0)) ∧ PlnAt w B q ∧ IFnAt w M 2 (nilsF b n) ∧ DoF w f ∧ RowAt w (fun _ => True) 1 dv q.ps.length (q.ps.map (doOf f))
def CmpR (p : Pg) (E : ErV) (nb : Bool) (nn : Int) (e : Ending) (w' : World) : Prop :=
 (∃ t x, ChkR p E (.returned (.iface t x)) w' ∧ e = .returned (.tuple #[.pointer none, .iface t x])) ∨
 ∃ (d : List Nat) (f : List UInt8 → Nat), RtP p d f ∧ (((nn == aroundI nn) = false ∧ e = .returned (.tuple #[.pointer none, .iface E.bt E.bq])) ∨
  ∃ (ts : List Nat) (qs : List Int) (C : Nat), Trn (puP p (latP p f)) ts ∧ tyL (kAl (fun _ => none) (varsP p)) (termsP p) = some (kindsP p, qs) ∧ qs.length = szL (termsP p) ∧ (nn == aroundI nn) = true ∧ e = .returned (.tuple #[.pointer (some ⟨C, 0, none⟩), .nilIface]) ∧ CodeAt w' C (plnOf p (latP p f) ts qs) (truthI nb) nn)
structure CmS (w2 w5 : World) (C B M : Nat) (f : List UInt8 → Option Value) (qs : List Pq) (j : Nat) (dv : Value) (wr : World) : Prop where
 sep : Sep wr w2.heap.size (fun b => b < w5.heap.size ∧ b ≠ C) [oBlk C (.cells #[.pointer (some ⟨B, 0, none⟩), dv, .map (some M)] 180 (0, 0)), oRow w2.heap.size 128 1 dv j ((qs.take j).map (doOf f))]
 st : ∀ b, b < w5.heap.size → b ≠ C → wr.heap[b]? = w5.heap[b]?
 sz : w5.heap.size ≤ wr.heap.size
 below : Below w2.heap.size w2 wr
theorem CmS.keep {w2 w5 : World} {C B M : Nat} {f : List UInt8 → Option Value} {qs : List Pq} {j : Nat} {dv : Value} {wr w' : World} (h : CmS w2 w5 C B M f qs j dv wr) (hb : Below wr.heap.size wr w') : CmS w2 w5 C B M f qs j dv w' :=
 ⟨h.sep.keep hb, fun b h1 h2 => (hb.block b (Nat.lt_of_lt_of_le h1 h.sz)).trans (h.st b h1 h2), Nat.le_trans h.sz hb.size, h.below.trans (hb.mono h.below.size)⟩
theorem CmS.cblk {w2 w5 : World} {C B M : Nat} {f : List UInt8 → Option Value} {qs : List Pq} {j : Nat} {dv : Value} {wr : World} (h : CmS w2 w5 C B M f qs j dv wr) : wr.heap[C]? = some (.cells #[.pointer (some ⟨B, 0, none⟩), dv, .map (some M)] 180 (0, 0)) := h.sep.is 0 _ rfl
theorem CmS.row {w2 w5 : World} {C B M : Nat} {f : List UInt8 → Option Value} {qs : List Pq} {j : Nat} {dv : Value} {wr : World} (h : CmS w2 w5 C B M f qs j dv wr) : wr.ownsRow w2.heap.size 128 1 dv j ((qs.take j).map (doOf f)) := h.sep.is 1 _ rfl
theorem CmS.more {w2 w5 : World} {C B M : Nat} {f : List UInt8 → Option Value} {qs : List Pq} {j : Nat} {dv : Value} {wr w' : World} (h : CmS w2 w5 C B M f qs j dv wr) {q : Pq} (hq : qs[j]? = some q) {g cap : Nat} (ho : w'.ownsRow w2.heap.size 128 1 (.slice (some ⟨g, 0, none⟩) (j + 1) cap) (j + 1) ((qs.take j).map (doOf f) ++ [doOf f q])) (hg : wr.grownBy w' dv.ownBlock) (ha : dv.ownBlock = some g ∨ g = wr.heap.size) : CmS w2 w5 C B M f qs (j + 1) (.slice (some ⟨g, 0, none⟩) (j + 1) cap) (w'.setCell ⟨C, 1, none⟩ (.slice (some ⟨g, 0, none⟩) (j + 1) cap)) := by
 have h4 := h.sep.grow (i := 1) rfl ho hg ha
 have h5 := h4.set (i := 0) (b := C) rfl 1 (.slice (some ⟨g, 0, none⟩) (j + 1) cap)
 have hs1 := h.sep.stays (i := 1) rfl hg
 have hs2 := h4.stays (i := 0) (c := oBlk C (.cells #[.pointer (some ⟨B, 0, none⟩), dv, .map (some M)] 180 (0, 0))) rfl (grown_set w' C 1 (.slice (some ⟨g, 0, none⟩) (j + 1) cap))
 have hb1 := h.sep.below (i := 1) rfl hg h.below
 refine ⟨?_, fun b h1 h2 => ?_, by rw [size_setCell]; exact Nat.le_trans h.sz hg.size, h4.below (i := 0) (c := oBlk C (.cells #[.pointer (some ⟨B, 0, none⟩), dv, .map (some M)] 180 (0, 0))) rfl (grown_set w' C 1 _) hb1⟩
 ·have e : (qs.take (j + 1)).map (doOf f) = (qs.take j).map (doOf f) ++ [doOf f q] := by rw [List.take_add_one, hq, List.map_append]; rfl
  rw [e]
  exact h5
 ·have hl := Nat.lt_of_lt_of_le h1 h.sz
  rw [(hs2 b ⟨h1, h2⟩ (Nat.lt_of_lt_of_le hl hg.size)).2, (hs1 b ⟨h1, h2⟩ hl).2]
  exact h.st b h1 h2
theorem part_at {w : World} {F : Nat → Prop} {o : Option Addr} {n c : Nat} {ps : List Prt} (h : RowAt w F 6 (.slice o n c) n (prC ps)) {j : Nat} {x : Prt} (hj : ps[j]? = some x) : ∃ b off, o = some ⟨b, off, none⟩ ∧ w.cell? ⟨b, off + j * 6, none⟩ = some (.string x.op) ∧ w.cell? ⟨b, off + j * 6 + 1, none⟩ = some (.int .i64 x.n) ∧ w.cell? ⟨b, off + j * 6 + 2, none⟩ = some (.slice x.oo x.ofs.length x.oc) ∧ w.cell? ⟨b, off + j * 6 + 3, none⟩ = some (.int .i64 x.mem) ∧ w.cell? ⟨b, off + j * 6 + 4, none⟩ = some (.int .i64 x.kind) ∧ w.cell? ⟨b, off + j * 6 + 5, none⟩ = some (.bool x.late) := by
 have h0 := prC_at 0 hj (by omega)
 obtain ⟨b, off, c', e, _, _, hc⟩ := h.at (by have := (List.getElem?_eq_some_iff.1 h0).1; omega)
 obtain ⟨rfl, rfl⟩ : o = some ⟨b, off, none⟩ ∧ c = c' := by simpa using e
 have hk : ∀ k v, k < 6 → x.cells[k]? = some v → w.cell? ⟨b, off + j * 6 + k, none⟩ = some v := fun k v h1 h2 => by
  rw [Nat.add_assoc]
  exact hc _ _ (by rw [prC_at k hj h1]; exact h2)
 exact ⟨b, off, rfl, hk 0 _ (by omega) rfl, hk 1 _ (by omega) rfl, hk 2 _ (by omega) rfl, hk 3 _ (by omega) rfl, hk 4 _ (by omega) rfl, hk 5 _ (by omega) rfl⟩
theorem compile_any (w : World) (S : Nat → Prop) (p : Pg) (o1 o2 o3 o4 o5 : Option Addr) (c1 c2 c3 c4 c5 : Nat) (E : ErV) (h : PgG w S p o1 o2 o3 o4 o5 c1 c2 c3 c4 c5 E) (hrk : ∀ (d : List Nat) (fl : List UInt8 → Option Int), OOk p d → ∃ rk, Rkd (puP p fl) rk) (nb : Bool) (nn : Int) :
  Calls Tryz.prog 52 #[.agg #[.slice o1 p.ins.length c1, .slice o2 p.outs.length c2, .slice o3 p.fs.length c3, .slice o4 p.asserts.length c4, .slice o5 p.checks.length c5], .bool nb, .int .i64 nn] w fun e w' => Below w.heap.size w w' ∧ CmpR p E nb nn e w' := by
 obtain ⟨i0, hi0, hz0, hz1, hz2⟩ := info_parts Tryz.infoOper
 obtain ⟨w1, hw1⟩ : ∃ w1, w1 = w.alloc (.cells #[.slice o1 p.ins.length c1, .slice o2 p.outs.length c2, .slice o3 p.fs.length c3, .slice o4 p.asserts.length c4, .slice o5 p.checks.length c5] 39) := ⟨_, rfl⟩
 obtain ⟨P, hP⟩ : ∃ P, P = w.heap.size := ⟨_, rfl⟩
 have hb1 : Below w.heap.size w w1 := by rw [hw1]; exact bal
 have hr1 : w1.heap[P]? = some (.cells #[.slice o1 p.ins.length c1, .slice o2 p.outs.length c2, .slice o3 p.fs.length c3, .slice o4 p.asserts.length c4, .slice o5 p.checks.length c5] 39 (0, 0)) := by rw [hw1, hP]; exact heap_alloc_new _ _
 have a0 : w1.cell? ⟨P, 0, none⟩ = some (.slice o1 p.ins.length c1) := cr hr1 rfl
 have a1 : w1.cell? ⟨P, 0 + 1, none⟩ = some (.slice o2 p.outs.length c2) := cr hr1 rfl
 have a2 : w1.cell? ⟨P, 0 + 2, none⟩ = some (.slice o3 p.fs.length c3) := cr hr1 rfl
 have a3 : w1.cell? ⟨P, 0 + 3, none⟩ = some (.slice o4 p.asserts.length c4) := cr hr1 rfl
 have a4 : w1.cell? ⟨P, 0 + 4, none⟩ = some (.slice o5 p.checks.length c5) := cr hr1 rfl
 have HB1 := hidP hb1
 have HG := hidP h
 have HW1 : Hid (w.alloc (.cells #[.slice o1 p.ins.length c1, .slice o2 p.outs.length c2, .slice o3 p.fs.length c3, .slice o4 p.asserts.length c4, .slice o5 p.checks.length c5] 39) = w1 ∧ w.heap.size = P) := ⟨hw1.symm, hP.symm⟩
 have HC1 : Hid (Calls Tryz.prog 99 #[.agg #[.slice o1 p.ins.length c1, .slice o2 p.outs.length c2, .slice o3 p.fs.length c3, .slice o4 p.asserts.length c4, .slice o5 p.checks.length c5]] w1 fun e w' => Below w1.heap.size w1 w' ∧ PofR p E e w') := planOf_any w1 S p o1 o2 o3 o4 o5 c1 c2 c3 c4 c5 E (h.keep hb1) hrk
 clear h hrk hw1 hP hb1 hr1
 go_enter Tryz.func52, Tryz.ntmps52
 go_upto_region 1 with fail
 rw [HW1.out.1, HW1.out.2]
 go_wp2_with fail
 refine HC1.out.mono ?_
 rintro e w2 ⟨hb2, hof⟩
 have HB2 : Hid (Below w.heap.size w w2) := HB1.out.trans (hb2.mono HB1.out.size)
 clear a0 a1 a2 a3 a4 HC1 hb2
 rcases hof with ⟨t, x, hck, rfl⟩ | ⟨d, f, ts, qs, B, hrt, htr, hty, hql, rfl, hpl⟩
 ·have HCK := hidP hck
  clear hck
  go_wp2
  try simp only [Exit.inBlock, Exit.then]
  refine bodyPost_ret (results_tmp2 rfl _ _ _) rfl ?_
  exact ⟨HB2.out, .inl ⟨t, x, HCK.out, rfl⟩⟩
 have HRT : Hid (RtP p d f ∧ Trn (puP p (latP p f)) ts ∧ tyL (kAl (fun _ => none) (varsP p)) (termsP p) = some (kindsP p, qs) ∧ qs.length = szL (termsP p)) := ⟨hrt, htr, hty, hql⟩
 have HPL := hidP hpl
 clear hrt htr hty hql hpl
 obtain ⟨bi, hbi⟩ : ∃ bi, bi = (nn == aroundI nn) := ⟨_, rfl⟩
 have HBI := hidP hbi
 have HC2 : Hid (Calls Tryz.prog 100 #[.int .i64 nn] w2 fun e w' => e = .returned (.bool bi) ∧ Below w2.heap.size w2 w') := by rw [hbi]; exact fisInt_any nn w2
 clear hbi
 cases bi with
 | false =>
  go_upto_region 5 with (go_at_call 100; refine HC2.out.mono ?_; rintro e w3 ⟨rfl, hb3⟩)
  have HB3 : Hid (Below w2.heap.size w2 w3 ∧ Below w.heap.size w w3) := ⟨hb3, HB2.out.trans (hb3.mono HB2.out.size)⟩
  have gb : w3.cell? ⟨2, 0, none⟩ = some (.iface E.bt E.bq) := (HG.out.keep HB3.out.2).e3.bound
  clear hb3 HC2
  go_quiet (fail)
  go_wp2
  try simp only [Exit.inBlock, Exit.then]
  refine bodyPost_ret (results_tmp2 rfl _ _ _) rfl ?_
  exact ⟨⟨HB3.out.2.os, HB3.out.2.tape, HB3.out.2.output, HB3.out.2.size, HB3.out.2.block⟩, .inr ⟨d, f, HRT.out.1, .inl ⟨HBI.out.symm, rfl⟩⟩⟩
 | true =>
  have hmm := @run_makeMap Tryz.prog
  go_upto_region 7 with (first
   | (go_at_call 100; refine HC2.out.mono ?_; rintro e w3 ⟨rfl, hb3⟩; have HB3 := hidP hb3; clear hb3; have HI0 : Hid (IFnAt (w3.alloc (.map #[] 0)) w3.heap.size 0 inone) := IFnAt.made w3)
   | (go_at_call 101; refine (ftruth_any nb _).mono ?_; rintro e w4 ⟨rfl, hw4⟩; have hw4s := hw4.symm; subst hw4s)
   | (refine wpList_insert_ifn _ rfl _ _ _ _ _ rfl Tryz.underlying177 w3.heap.size 1 _ rfl HI1.out (by decide) 2 (by decide) rfl _ rfl ?_; intro w6 h6 g6; have HI2 := hidP h6; clear h6)
   | (refine wpList_insert_ifn _ rfl _ _ _ _ _ rfl Tryz.underlying177 w3.heap.size 0 _ rfl HI0.out (by decide) 1 (by decide) rfl _ rfl ?_; intro w5 h5 g5; have HI1 := hidP h5; clear h5)
   | fail)
  clear hmm HC2
  obtain ⟨M, hM⟩ : ∃ M, M = w3.heap.size := ⟨_, rfl⟩
  obtain ⟨C, hC⟩ : ∃ C, C = w6.heap.size := ⟨_, rfl⟩
  obtain ⟨w7, hw7⟩ : ∃ w7, w7 = w6.alloc (.cells #[.pointer (some ⟨B, 0, none⟩), .slice none 0 0, .map (some M)] 180) := ⟨_, rfl⟩
  have hbm : Below w3.heap.size w3 w6 := by
   have h0 : Below w3.heap.size w3 (w3.alloc (.map #[] 0)) := bal
   have h1 := h0.grown g5 h0.size (fun k hk => by obtain rfl := Option.some.inj hk; exact Nat.le_refl _)
   exact h1.grown g6 h1.size (fun k hk => by obtain rfl := Option.some.inj hk; exact Nat.le_refl _)
  have hb26 : Below w2.heap.size w2 w6 := HB3.out.trans (hbm.mono HB3.out.size)
  have hb67 : Below w6.heap.size w6 w7 := by rw [hw7]; exact bal
  have HI7 : Hid (IFnAt w7 M 2 (nilsF (truthI nb) nn) ∧ M < C) := by
   have hi := HI2.out
   rw [← hM] at hi
   refine ⟨hi.kept (hb67.block _ hi.lt), ?_⟩
   rw [hC]; exact hi.lt
  have hr7 : w7.heap[C]? = some (.cells #[.pointer (some ⟨B, 0, none⟩), .slice none 0 0, .map (some M)] 180 (0, 0)) := by rw [hw7, hC]; exact heap_alloc_new _ _
  have H7 : Hid (Below w2.heap.size w2 w7 ∧ w2.heap.size ≤ C ∧ C < w7.heap.size ∧ w7.heap[C]? = some (.cells #[.pointer (some ⟨B, 0, none⟩), .slice none 0 0, .map (some M)] 180 (0, 0))) := ⟨hb26.trans (hb67.mono hb26.size), by rw [hC]; exact hb26.size, (Array.getElem?_eq_some_iff.1 hr7).1, hr7⟩
  have HW7 : Hid (w6.alloc (.cells #[.pointer (some ⟨B, 0, none⟩), .slice none 0 0, .map (some M)] 180) = w7 ∧ w3.heap.size = M ∧ w6.heap.size = C) := ⟨hw7.symm, hM.symm, hC.symm⟩
  clear hM hC hw7 hbm hb26 hb67 hr7 HI0 HI1 HI2 g5 g6
  rw [HW7.out.2.1, HW7.out.2.2, HW7.out.1]
  go_upto_region 8 with (go_at_call 62; refine (operators_any w7).mono ?_; rintro e w8 ⟨rfl, hop, hb8⟩)
  obtain ⟨O, hO⟩ : ∃ O, O = w7.heap.size := ⟨_, rfl⟩
  rw [← hO] at hop
  rw [← hO]
  obtain ⟨fo, nO, hfo, hdo⟩ := hop.do
  have HO8 : Hid (FnAt w8 O nO fo ∧ DoF w8 fo ∧ C < O ∧ O < w8.heap.size) := ⟨hfo, hdo, by rw [hO]; exact H7.out.2.2.1, hfo.lt⟩
  have hr8 := row_keep hb8 H7.out.2.2.2
  have HB8 : Hid (Below w7.heap.size w7 w8 ∧ Below w2.heap.size w2 w8) := ⟨hb8, H7.out.1.trans (hb8.mono H7.out.1.size)⟩
  obtain ⟨vp, vi, vt, vk, vo, va, vc, ps, hB, hps, hvp, _⟩ := HPL.out.is
  obtain ⟨o, c, hv, _⟩ := hvp.2.2
  subst hv
  have hplen : (plnOf p (latP p f) ts qs).ps.length = p.ins.length + szL (termsP p) := by
   show (kdP _ (puP p (latP p f))).length = _
   rw [kdP_length]
   show (rsP _ _ _).length = _
   rw [rsP, List.length_mapIdx, (puM_len p (latP p f)).1]
  obtain ⟨n, hn⟩ : ∃ n, n = ps.length := ⟨_, rfl⟩
  have HN : Hid (n = ps.length ∧ n ≤ 5000) := by
   have h1 := congrArg List.length hps
   rw [List.length_map, hplen] at h1
   have h2 := HG.out.ok.vars
   obtain ⟨_, _, _, _, _, _, h3, _⟩ := flatC_zero HRT.out.1.ord.1
   exact ⟨hn, by omega⟩
  have HPS : Hid (ps.map Prt.q = (plnOf p (latP p f) ts qs).ps ∧ RowAt w2 (fun _ => True) 6 (.slice o n c) n (prC ps)) := ⟨hps, by rw [hn]; exact hvp⟩
  rw [← hn] at hB
  have x0 : w8.cell? ⟨B, 0, none⟩ = some (.slice o n c) := by rw [cell_of_row w8 _ _ _ _ (0, 0) (row_keep HB8.out.2 hB)]; rfl
  have HS0 : Hid (CmS w2 w8 C B M fo (ps.map Prt.q) 0 (.slice none 0 0) w8) := by
   refine ⟨?_, fun _ _ _ => rfl, Nat.le_refl _, HB8.out.2⟩
   have s0 : Sep w8 w2.heap.size (fun b => b < w8.heap.size ∧ b ≠ C) [] := Sep.nil (fun _ h => h.1) HB8.out.2.size
   have s1 := s0.head (oRow w2.heap.size 128 1 (.slice none 0 0) 0 []) (World.ownsRow_nil _ _ _ _) (fun _ h => by simp [oRow, Value.ownBlock] at h)
   refine s1.head (oBlk C (.cells #[.pointer (some ⟨B, 0, none⟩), .slice none 0 0, .map (some M)] 180 (0, 0))) hr8 (fun q h => ?_)
   obtain rfl : C = q := Option.some.inj h
   refine ⟨H7.out.2.1, (Array.getElem?_eq_some_iff.1 hr8).1, fun hf => hf.2 rfl, fun d hd => ?_⟩
   rw [List.mem_singleton.1 hd]
   exact fun e => by simp [oRow, Value.ownBlock] at e
  have HCU : Hid (∀ W u j, CmS w2 w8 C B M fo (ps.map Prt.q) j u W → W.cell? ⟨C, 0 + 1, none⟩ = some u ∧ W.frozen? ⟨C, 0 + 1, none⟩ = false) := fun W u j hW => ⟨cr hW.cblk rfl, frozen_row hW.cblk⟩
  clear hop hb8 hO hfo hdo hr8 hB hps hvp hplen hn
  go_wp2
  clear x0
  go_loopw [40] (fun t wr => ∃ (j : Nat) (u : Value), j ≤ n ∧ t = .int .i64 j ∧ Hid (CmS w2 w8 C B M fo (ps.map Prt.q) j u wr)) (fun t _ => n - (intOf t).toNat)
  case atStart => exact ⟨0, .slice none 0 0, Nat.zero_le _, rfl, HS0.out⟩
  case round =>
   obtain ⟨j, u, hj, rfl, HR⟩ := hrel
   by_cases hjl : j < n
   ·obtain ⟨x, hx⟩ : ∃ x, ps[j]? = some x := ⟨_, List.getElem?_eq_getElem (by rw [← HN.out.1]; exact hjl)⟩
    have HXS : Hid (x.op.size ≤ maxLen ∧ (ps.map Prt.q)[j]? = some x.q) := by
     have h1 : (ps.map Prt.q)[j]? = some x.q := by rw [List.getElem?_map, hx]; rfl
     exact ⟨pln_op HG.out.ok (latP p f) ts qs (by rw [← HPS.out.1]; exact h1), h1⟩
    obtain ⟨b, off, rfl, k0, k1, k2, k3, k4, k5⟩ := part_at (HPS.out.2.keep (stays_true HR.out.below)) hx
    have i0' : (0 : Int) ≤ (j : Int) := by omega
    have i1' : (j : Int) < (n : Int) := by omega
    obtain ⟨wB, hwB⟩ : ∃ wB, wB = wr.alloc (.cells #[.string x.op, .int .i64 x.n, .slice x.oo x.ofs.length x.oc, .int .i64 x.mem, .int .i64 x.kind, .bool x.late] 185) := ⟨_, rfl⟩
    obtain ⟨V, hV⟩ : ∃ V, V = wr.heap.size := ⟨_, rfl⟩
    have hbB : Below wr.heap.size wr wB := by rw [hwB]; exact bal
    have hrB : wB.heap[V]? = some (.cells #[.string x.op, .int .i64 x.n, .slice x.oo x.ofs.length x.oc, .int .i64 x.mem, .int .i64 x.kind, .bool x.late] 185 (0, 0)) := by rw [hwB, hV]; exact heap_alloc_new _ _
    have HSB : Hid (CmS w2 w8 C B M fo (ps.map Prt.q) j u wB) := HR.out.keep hbB
    have HVV : Hid (V ≠ C ∧ w8.heap.size ≤ V ∧ ∀ q, u.ownBlock = some q → q ≠ V) := ⟨by have := H7.out.2.2.1; have := HR.out.sz; have := HB8.out.1.size; omega, by have := HR.out.sz; omega, fun q hq => by have := (HR.out.sep.lt 1 _ q rfl hq).2.1; omega⟩
    have HSX : Hid (∀ W : World, W.heap[V]? = wB.heap[V]? → (∀ b, b < w8.heap.size → b ≠ C → W.heap[b]? = w8.heap[b]?) → W.cell? ⟨V, 0, none⟩ = some (.string x.op) ∧ (Instr.lookup 130 (.map (some O)) (.string x.op) false).run Tryz.prog W = .ok (doOf fo x.q) W) := fun W h1 h2 => by
     refine ⟨by rw [cell_of_row W _ _ _ _ (0, 0) (h1.trans hrB)]; rfl, ?_⟩
     have hf := HO8.out.1.kept (h2 O HO8.out.2.2.2 (by have := HO8.out.2.2.1; omega))
     exact hf.look1 Tryz.underlying130 (zero_op W) x.op HXS.out.1
    have hS0 := HSX.out wB.drew rfl HSB.out.st
    have zu := (HCU.out wB u j HSB.out).1
    have zu2 : wB.drew.cell? ⟨C, 0 + 1, none⟩ = some u := zu
    have HON : Hid (∀ u ∈ [doOf fo x.q], u.oneCell' = true) := fun u hu => by rw [List.mem_singleton.1 hu]; exact HO8.out.2.1.one x.q
    have HJ := hidP hjl
    have N4 : Hid (wrap64 ((j : Int) + 1) = (j : Int) + 1) := by have := HN.out.2; have := HJ.out; unfold Hid wrap64; omega
    have HMX : Hid (j + 1 ≤ maxLen ∧ (j + 1) * 8 ≤ 140737488355328) := by have := HN.out.2; have := HJ.out; unfold Hid maxLen; omega
    have HWB : Hid (wr.alloc (.cells #[.string x.op, .int .i64 x.n, .slice x.oo x.ofs.length x.oc, .int .i64 x.mem, .int .i64 x.kind, .bool x.late] 185) = wB ∧ wr.heap.size = V) := ⟨hwB.symm, hV.symm⟩
    have HVL : Hid (V < wB.heap.size) := (Array.getElem?_eq_some_iff.1 hrB).1
    clear hx hwB hV hbB hrB zu hj hjl HR
    go_upto_region 11 with fail
    rw [HWB.out.1, HWB.out.2]
    clear k0 k1 k2 k3 k4 k5
    refine wp_region_till 13 (fun w' => w'.cell? ⟨V, 0, none⟩ = some (.string x.op) ∧ (Instr.lookup 130 (.map (some O)) (.string x.op) false).run Tryz.prog w' = .ok (doOf fo x.q) w') (fun w' => w'.cell? ⟨C, 0 + 1, none⟩ = some u) (by kernel_rfl) hS0 zu2 (fun hHeld => ?_)
    refine tk 0 44 (.pointer (some ⟨C, 0, none⟩)) rfl (.inl ⟨by rfl, by rintro w ⟨b0, bl⟩; go_simp⟩) hHeld ?_
    try simp only [tp]
    refine tk 1 45 (.pointer (some ⟨C, 0, none⟩)) rfl (.inl ⟨by rfl, by rintro w ⟨b0, bl⟩; go_simp⟩) hHeld ?_
    try simp only [tp]
    refine tk 2 46 (.pointer (some ⟨C, 0, none⟩)) rfl (.inl ⟨by rfl, by rintro w ⟨b0, bl⟩; go_simp⟩) hHeld ?_
    try simp only [tp]
    refine tk 3 47 (.pointer (some ⟨C, 1, none⟩)) rfl (.inl ⟨by rfl, by rintro w ⟨b0, bl⟩; go_simp⟩) hHeld ?_
    try simp only [tp]
    refine wpTill_load 10 (i := 4) (oi := ⟨some 48, _, _, _, _, _⟩) (v := u) rfl rfl (by kernel_rfl) (by kernel_rfl) (by kernel_rfl) (by kernel_rfl) (by kernel_rfl) (by kernel_rfl) (by kernel_rfl) (fun _ _ _ h => h) (Or.inl ⟨by rfl, ?_⟩) hHeld ?_
    ·intro w hSw; (try dsimp only at hSw); go_simp
    try simp only [tp]
    refine tk 5 49 (.map (some O)) rfl (.inl ⟨by rfl, by rintro w ⟨b0, bl⟩; go_simp⟩) hHeld ?_
    try simp only [tp]
    refine tk 6 50 (.pointer (some ⟨V, 0, none⟩)) rfl (.inl ⟨by rfl, by rintro w ⟨b0, bl⟩; go_simp⟩) hHeld ?_
    try simp only [tp]
    refine tk 7 51 (.string x.op) rfl (.inl ⟨by rfl, by rintro w ⟨b0, bl⟩; go_simp⟩) hHeld ?_
    try simp only [tp]
    refine tk 8 52 (doOf fo x.q) rfl (.inl ⟨by rfl, by rintro w ⟨b0, bl⟩; go_simp⟩) hHeld ?_
    try simp only [tp]
    refine wpTill_ready (rs := [9]) (by kernel_rfl) (by simp) ?_
    refine AllTill.cons (o := ⟨some 53, _, _, _, _, _⟩) rfl (fun K hK => ?_) AllTill.nil
    rcases HO8.out.2.1.shape x.q with hy | ⟨ii, ics, hy⟩ <;> (rw [hy]; go_simp; rw [← hy])
    all_goals
     clear hy
     obtain ⟨wA, hwA⟩ : ∃ wA, wA = (wB.alloc (.cells #[doOf fo x.q] 128)).drew := ⟨_, rfl⟩
     obtain ⟨Q, hQ⟩ : ∃ Q, Q = wB.heap.size := ⟨_, rfl⟩
     have hbA : Below wB.heap.size wB wA := by rw [hwA]; exact (bal).drew
     have HSA : Hid (CmS w2 w8 C B M fo (ps.map Prt.q) j u wA) := HSB.out.keep hbA
     have HNA : Hid (∀ k y, [doOf fo x.q][k]? = some y → wA.cell? ((⟨Q, 0, none⟩ : Addr).add k) = some y) := by unfold Hid; rw [hwA, hQ]; exact World.news_of_block (heap_alloc_new wB _)
     have HVA : Hid (wA.heap[V]? = wB.heap[V]? ∧ V < wA.heap.size) := by
      exact ⟨hbA.block V HVL.out, Nat.lt_of_lt_of_le HVL.out hbA.size⟩
     rw [← hwA, ← hQ]
     refine hK.out _ _ ⟨HSX.out wA HVA.out.1 HSA.out.st, fun _ => (HCU.out wA u j HSA.out).1⟩ (fun hHeld => ?_)
     clear hK K hwA hbA hQ hS0 zu2
     try simp only [tp]
     refine wpTill_ready (rs := [10]) (by kernel_rfl) (by simp) ?_
     refine AllTill.cons (o := ⟨some 54, _, _, _, _, _⟩) rfl (fun K hK => ?_) AllTill.nil
     refine step_append_lies _ rfl (.tmp 48) (.tmp 53) 178 rfl w2.heap.size 128 i0 _ 1 8 Tryz.underlying178 hi0 hz0 hz1 hz2 rfl (by omega) u j _ (by simp [Act.eval]) HSA.out.row ⟨Q, 0, none⟩ 1 1 [doOf fo x.q] (by simp [Act.eval]) rfl HNA.out HON.out (by omega) HMX.out.1 HMX.out.2 HSA.out.below.size _ rfl ?_
     intro g cap w9 hown hgrow hat hlt
     have hmore := HSA.out.more HXS.out.2 hown hgrow hat
     have huC : u.ownBlock ≠ some C := HSA.out.sep.ne 0 1 _ _ C (by decide) rfl rfl rfl
     have hc9 := heap_grown' hgrow huC HSA.out.cblk
     have bc9 : w9.cell? ⟨C, 0 + 1, none⟩ = some u := cr hc9 rfl
     have fz9 : w9.frozen? ⟨C, 0 + 1, none⟩ = false := frozen_row hc9
     have hst9 : ∀ b, b < w8.heap.size → b ≠ C → w9.heap[b]? = w8.heap[b]? := fun b h1 h2 => by
      rw [hgrow.block b (Nat.lt_of_lt_of_le h1 HSA.out.sz) (fun e => (HSA.out.sep.lt 1 _ b rfl e.symm).2.2 ⟨h1, h2⟩)]
      exact HSA.out.st b h1 h2
     have hv9 : w9.heap[V]? = wB.heap[V]? := (hgrow.block V HVA.out.2 (fun e => HVV.out.2.2 V e.symm rfl)).trans HVA.out.1
     refine hK.out _ _ ⟨HSX.out w9 hv9 hst9, fun _ => bc9⟩ (fun hHeld => ?_)
     clear hK K
     try simp only [tp]
     refine tk 11 55 (.pointer (some ⟨C, 0, none⟩)) rfl (.inl ⟨by rfl, ?_⟩) hHeld ?_
     ·intro w hSw; (try dsimp only at hSw); go_simp
     try simp only [tp]
     refine tk 12 56 (.pointer (some ⟨C, 1, none⟩)) rfl (.inl ⟨by rfl, ?_⟩) hHeld ?_
     ·intro w hSw; (try dsimp only at hSw); go_simp
     try simp only [tp]
     refine wpTill_ready (rs := [13]) (by kernel_rfl) (by simp) ?_
     refine AllTill.cons (o := ⟨none, _, _, _, _, _⟩) rfl (fun K hK => ?_) AllTill.nil
     go_simp
     obtain ⟨wE, hwE⟩ : ∃ wE, wE = w9.setCell ⟨C, 1, none⟩ (.slice (some ⟨g, 0, none⟩) (j + 1) cap) := ⟨_, rfl⟩
     rw [← hwE] at hmore
     rw [← hwE]
     have HNX := hidP hmore
     have hvE : wE.heap[V]? = wB.heap[V]? := by rw [hwE, Below.heap_setCell w9 ⟨C, 1, none⟩ _ V HVV.out.1]; exact hv9
     refine hK.out _ _ (Till.last (HSX.out wE hvE HNX.out.st)) (fun hHeld => ?_)
     clear hK K
     try simp only [tp]
     refine wpTill_done (by kernel_rfl) ?_ _
     clear hmore huC hc9 bc9 fz9 hst9 hv9 hvE hwE hown hgrow hat hlt hHeld
     go_wp2
     exact ⟨⟨j + 1, _, HJ.out, by (try rw [N4.out]); rfl, HNX.out⟩, by (try rw [N4.out]); have := HJ.out; simp [intOf]; omega⟩
   ·obtain rfl : n = j := by omega
    have HE : Hid (Below w.heap.size w wr ∧ CodeAt wr C (plnOf p (latP p f) ts qs) (truthI nb) nn) := by
     have hk := HR.out
     refine ⟨HB2.out.trans (hk.below.mono HB2.out.size), B, M, u, fo, hk.cblk, HPL.out.keep hk.below, ?_, ?_, ?_⟩
     ·have h7 := HI7.out.1
      refine h7.kept ((hk.st M (Nat.lt_of_lt_of_le h7.lt HB8.out.1.size) (by have := HI7.out.2; omega)).trans (HB8.out.1.block M h7.lt))
     ·refine HO8.out.2.1.keep (fun q i hc => ?_)
      have hq : q < w8.heap.size := blk_of_cell hc
      have hqC : q ≠ C := fun e => by
       rw [e, cell_of_row w8 _ _ _ _ (0, 0) (row_keep HB8.out.1 H7.out.2.2.2)] at hc
       cases hc
      rw [World.cell?_of_block (w := w8) (hk.st q hq hqC)]
      exact hc
     ·have hrow := (RowAt.of_owns hk.row).wide
      rw [List.take_of_length_le (by rw [List.length_map, ← HN.out.1]; exact Nat.le_refl _), HPS.out.1] at hrow
      have hl : (plnOf p (latP p f) ts qs).ps.length = n := by rw [← HPS.out.1, List.length_map, ← HN.out.1]
      rw [hl]
      exact hrow
    clear hj hjl HR
    go_wp2
    try simp only [Exit.inBlock, Exit.then]
    refine bodyPost_ret (results_tmp2 rfl _ _ _) rfl ?_
    exact ⟨HE.out.1, .inr ⟨d, f, HRT.out.1, .inr ⟨ts, qs, C, HRT.out.2.1, HRT.out.2.2.1, HRT.out.2.2.2, HBI.out.symm, rfl, HE.out.2⟩⟩⟩
set_option maxRecDepth 100000
set_option maxHeartbeats 1000000

def isV (x : Int × Int) (k : Int) : Bool := x.1 == k && rightB x.1 x.2 x.1
theorem isOf_any (k n kind : Int) (w : World) : Calls Tryz.prog 148 #[.agg #[.int .i64 k, .int .i64 n], .int .i64 kind] w fun e w' => e = .returned (.bool (isV (k, n) kind)) ∧ Below w.heap.size w w' := by
 obtain ⟨w1, hw1⟩ : ∃ w1, w1 = w.alloc (.cells #[.int .i64 k, .int .i64 n] 66) := ⟨_, rfl⟩
 obtain ⟨V, hV⟩ : ∃ V, V = w.heap.size := ⟨_, rfl⟩
 have hb1 : Below w.heap.size w w1 := by rw [hw1]; exact bal
 have hr1 : w1.heap[V]? = some (.cells #[.int .i64 k, .int .i64 n] 66 (0, 0)) := by rw [hw1, hV]; exact heap_alloc_new _ _
 have z0 : w1.cell? ⟨V, 0, none⟩ = some (.int .i64 k) := cr hr1 rfl
 have z1 : w1.cell? ⟨V, 0 + 1, none⟩ = some (.int .i64 n) := cr hr1 rfl
 have HB := hidP hb1
 have HW1 : Hid (w.alloc (.cells #[.int .i64 k, .int .i64 n] 66) = w1 ∧ w.heap.size = V) := ⟨hw1.symm, hV.symm⟩
 clear hw1 hV hb1 hr1
 by_cases hk : k = kind
 ·have HK : Hid (isV (k, n) kind = rightB k n k) := by unfold Hid isV; simp [hk]
  have hk1 : (k == kind) = true := by simp [hk]
  clear hk
  go_enter Tryz.func148, Tryz.ntmps148
  go_upto_region 1 with fail
  rw [HW1.out.1, HW1.out.2]
  go_wp2_with (go_at_call 66; refine (isNone_any k n w1).mono ?_; rintro e w2 ⟨rfl, hb2⟩)
  have HB2 : Hid (Below w.heap.size w w2) := HB.out.trans (hb2.mono HB.out.size)
  clear hb2 z0 z1
  go_ret
  exact ⟨by rw [HK.out]; simp, HB2.out⟩
 ·have HK : Hid (isV (k, n) kind = false) := by unfold Hid isV; simp [hk]
  have hk1 : (k == kind) = false := by simp [hk]
  clear hk
  go_enter Tryz.func148, Tryz.ntmps148
  go_upto_region 1 with fail
  rw [HW1.out.1, HW1.out.2]
  go_wp2
  go_ret
  exact ⟨by rw [HK.out]; rfl, HB.out⟩
structure Cd (w : World) (C B M : Nat) (dv : Value) (f : List UInt8 → Option Value) (q : Pln) (b n : Int) : Prop where
 blk : w.heap[C]? = some (.cells #[.pointer (some ⟨B, 0, none⟩), dv, .map (some M)] 180 (0, 0))
 pln : PlnAt w B q
 nils : IFnAt w M 2 (nilsF b n)
 fns : DoF w f
 row : RowAt w (fun _ => True) 1 dv q.ps.length (q.ps.map (doOf f))
theorem CodeAt.cd {w : World} {C : Nat} {q : Pln} {b n : Int} (h : CodeAt w C q b n) : ∃ B M dv f, Cd w C B M dv f q b n := by
 obtain ⟨B, M, dv, f, h1, h2, h3, h4, h5⟩ := h
 exact ⟨B, M, dv, f, h1, h2, h3, h4, h5⟩
section
variable {w w' : World} {C B M : Nat} {dv : Value} {f : List UInt8 → Option Value} {q : Pln} {b n : Int}
theorem Cd.keep (h : Cd w C B M dv f q b n) (hb : Below w.heap.size w w') : Cd w' C B M dv f q b n :=
 ⟨row_keep hb h.blk, h.pln.keep hb, h.nils.kept (hb.block _ h.nils.lt), h.fns.keep (fun _ _ hc => cell_keep hb hc), h.row.keep (stays_true hb)⟩
theorem Cd.c0 (h : Cd w C B M dv f q b n) : w.cell? ⟨C, 0, none⟩ = some (.pointer (some ⟨B, 0, none⟩)) := cr h.blk rfl
theorem Cd.c2 (h : Cd w C B M dv f q b n) : w.cell? ⟨C, 0 + 2, none⟩ = some (.map (some M)) := cr h.blk rfl
theorem PlnAt.part (h : PlnAt w B q) {x : Nat} {p : Pq} (hx : q.ps[x]? = some p) : ∃ pb off c po pc, w.cell? ⟨B, 0, none⟩ = some (.slice (some ⟨pb, off, none⟩) q.ps.length c) ∧ w.cell? ⟨pb, off + x * 6, none⟩ = some (.string p.op) ∧ w.cell? ⟨pb, off + x * 6 + 1, none⟩ = some (.int .i64 p.n) ∧ w.cell? ⟨pb, off + x * 6 + 2, none⟩ = some (.slice po p.ofs.length pc) ∧ w.cell? ⟨pb, off + x * 6 + 3, none⟩ = some (.int .i64 p.mem) ∧ w.cell? ⟨pb, off + x * 6 + 4, none⟩ = some (.int .i64 p.kind) ∧ w.cell? ⟨pb, off + x * 6 + 5, none⟩ = some (.bool p.late) ∧ RowAt w (fun _ => True) 1 (.slice po p.ofs.length pc) p.ofs.length (inC p.ofs) ∧ x < q.ps.length := by
 obtain ⟨vp, vi, vt, vk, vo, va, vc, ps, hB, hps, hvp, hof, _⟩ := h.is
 have hl := (List.getElem?_eq_some_iff.1 hx).1
 rw [← hps, List.getElem?_map] at hx
 cases hp : ps[x]? with
 | none => rw [hp] at hx; cases hx
 | some r =>
  rw [hp] at hx
  obtain rfl := Option.some.inj hx
  obtain ⟨o, c, hv, _⟩ := hvp.2.2
  subst hv
  obtain ⟨pb, off, rfl, k0, k1, k2, k3, k4, k5⟩ := part_at hvp hp
  have hlen : ps.length = q.ps.length := by rw [← hps, List.length_map]
  refine ⟨pb, off, c, r.oo, r.oc, ?_, k0, k1, k2, k3, k4, k5, hof r (List.mem_of_getElem? hp), hl⟩
  rw [cell_of_row w _ _ _ _ (0, 0) hB, ← hlen]; rfl
theorem PlnAt.list (h : PlnAt w B q) : ∃ vi vt vk vo va vc : Value, (w.cell? ⟨B, 0 + 1, none⟩ = some vi ∧ w.cell? ⟨B, 0 + 2, none⟩ = some vt ∧ w.cell? ⟨B, 0 + 3, none⟩ = some vk ∧ w.cell? ⟨B, 0 + 4, none⟩ = some vo ∧ w.cell? ⟨B, 0 + 5, none⟩ = some va ∧ w.cell? ⟨B, 0 + 6, none⟩ = some vc) ∧ RowAt w (fun _ => True) 1 vi q.is.length (inC q.is) ∧ RowAt w (fun _ => True) 1 vt q.ts.length (inC q.ts) ∧ RowAt w (fun _ => True) 1 vk q.ks.length (inC q.ks) ∧ RowAt w (fun _ => True) 1 vo q.os.length (inC q.os) ∧ RowAt w (fun _ => True) 1 va q.ax.length (inC q.ax) ∧ RowAt w (fun _ => True) 1 vc q.cx.length (inC q.cx) := by
 obtain ⟨vp, vi, vt, vk, vo, va, vc, ps, hB, _, _, _, h1, h2, h3, h4, h5, h6⟩ := h.is
 refine ⟨vi, vt, vk, vo, va, vc, ⟨?_, ?_, ?_, ?_, ?_, ?_⟩, h1, h2, h3, h4, h5, h6⟩ <;> (rw [cell_of_row w _ _ _ _ (0, 0) hB]; rfl)
end
def kindAt (ps : List Pq) (x : Nat) : Int := (ps[x]?.map Pq.kind).getD 0
theorem kindAt_some {ps : List Pq} {x : Nat} {p : Pq} (h : ps[x]? = some p) : kindAt ps x = p.kind := by unfold kindAt; rw [h]; rfl
theorem fit1_any {w : World} {C B M CB : Nat} {dv : Value} {f : List UInt8 → Option Value} {q : Pln} {b n : Int} (h : Cd w C B M dv f q b n) (hc : w.cell? ⟨CB, 0, none⟩ = some (.pointer (some ⟨C, 0, none⟩))) (x : Nat) (hx : x < q.ps.length) (k v : Int) :
  Calls Tryz.prog 147 #[.int .i64 (x : Int), .agg #[.int .i64 k, .int .i64 v], .pointer (some ⟨CB, 0, none⟩)] w fun e w' => e = .returned (.bool (isV (k, v) (kindAt q.ps x))) ∧ Below w.heap.size w w' := by
 obtain ⟨p, hp⟩ : ∃ p, q.ps[x]? = some p := ⟨_, List.getElem?_eq_getElem hx⟩
 rw [kindAt_some hp]
 obtain ⟨w1, hw1⟩ : ∃ w1, w1 = w.alloc (.cells #[.int .i64 k, .int .i64 v] 66) := ⟨_, rfl⟩
 obtain ⟨V, hV⟩ : ∃ V, V = w.heap.size := ⟨_, rfl⟩
 have hb1 : Below w.heap.size w w1 := by rw [hw1]; exact bal
 have hr1 : w1.heap[V]? = some (.cells #[.int .i64 k, .int .i64 v] 66 (0, 0)) := by rw [hw1, hV]; exact heap_alloc_new _ _
 obtain ⟨pb, off, c, po, pc, pB, _, _, _, _, p4, _, _, _⟩ := (h.keep hb1).pln.part hp
 have HS : Hid (∀ W, Below w1.heap.size w1 W → W.cell? ⟨V, 0, none⟩ = some (.int .i64 k) ∧ W.cell? ⟨V, 0 + 1, none⟩ = some (.int .i64 v) ∧ W.cell? ⟨CB, 0, none⟩ = some (.pointer (some ⟨C, 0, none⟩)) ∧ W.cell? ⟨C, 0, none⟩ = some (.pointer (some ⟨B, 0, none⟩)) ∧ W.cell? ⟨B, 0, none⟩ = some (.slice (some ⟨pb, off, none⟩) q.ps.length c) ∧ W.cell? ⟨pb, off + x * 6 + 4, none⟩ = some (.int .i64 p.kind)) := fun W hW => by
  have hr := row_keep hW hr1
  exact ⟨cr hr rfl, cr hr rfl, cell_keep hW (cell_keep hb1 hc), cell_keep hW (h.keep hb1).c0, cell_keep hW pB, cell_keep hW p4⟩
 have HB := hidP hb1
 have HW1 : Hid (w.alloc (.cells #[.int .i64 k, .int .i64 v] 66) = w1 ∧ w.heap.size = V) := ⟨hw1.symm, hV.symm⟩
 have i0' : (0 : Int) ≤ (x : Int) := by omega
 have i1' : (x : Int) < (q.ps.length : Int) := by omega
 have hS0 := HS.out w1.drew (Below.refl _ _).drew
 clear h hc hx hp hw1 hV hb1 hr1 pB p4
 go_enter Tryz.func147, Tryz.ntmps147
 go_upto_region 1 with fail
 rw [HW1.out.1, HW1.out.2]
 refine wp_region_till 13 (fun W => W.cell? ⟨V, 0, none⟩ = some (.int .i64 k) ∧ W.cell? ⟨V, 0 + 1, none⟩ = some (.int .i64 v) ∧ W.cell? ⟨CB, 0, none⟩ = some (.pointer (some ⟨C, 0, none⟩)) ∧ W.cell? ⟨C, 0, none⟩ = some (.pointer (some ⟨B, 0, none⟩)) ∧ W.cell? ⟨B, 0, none⟩ = some (.slice (some ⟨pb, off, none⟩) q.ps.length c) ∧ W.cell? ⟨pb, off + x * 6 + 4, none⟩ = some (.int .i64 p.kind)) (fun _ => True) (by kernel_rfl) hS0 trivial (fun hHeld => ?_)
 refine tk 0 6 (.agg #[.int .i64 k, .int .i64 v]) rfl (.inl ⟨by rfl, by rintro w ⟨b0, b1, bc, bd, be, bf⟩; go_simp⟩) hHeld ?_
 try simp only [tp]
 refine tk 1 7 (.pointer (some ⟨C, 0, none⟩)) rfl (.inl ⟨by rfl, by rintro w ⟨b0, b1, bc, bd, be, bf⟩; go_simp⟩) hHeld ?_
 try simp only [tp]
 refine tk 2 8 (.pointer (some ⟨C, 0, none⟩)) rfl (.inl ⟨by rfl, by rintro w ⟨b0, b1, bc, bd, be, bf⟩; go_simp⟩) hHeld ?_
 try simp only [tp]
 refine tk 3 9 (.pointer (some ⟨C, 0, none⟩)) rfl (.inl ⟨by rfl, by rintro w ⟨b0, b1, bc, bd, be, bf⟩; go_simp⟩) hHeld ?_
 try simp only [tp]
 refine tk 4 10 (.pointer (some ⟨B, 0, none⟩)) rfl (.inl ⟨by rfl, by rintro w ⟨b0, b1, bc, bd, be, bf⟩; go_simp⟩) hHeld ?_
 try simp only [tp]
 refine tk 5 11 (.pointer (some ⟨B, 0, none⟩)) rfl (.inl ⟨by rfl, by rintro w ⟨b0, b1, bc, bd, be, bf⟩; go_simp⟩) hHeld ?_
 try simp only [tp]
 refine tk 6 12 (.pointer (some ⟨B, 0, none⟩)) rfl (.inl ⟨by rfl, by rintro w ⟨b0, b1, bc, bd, be, bf⟩; go_simp⟩) hHeld ?_
 try simp only [tp]
 refine tk 7 13 (.slice (some ⟨pb, off, none⟩) q.ps.length c) rfl (.inl ⟨by rfl, by rintro w ⟨b0, b1, bc, bd, be, bf⟩; go_simp⟩) hHeld ?_
 try simp only [tp]
 refine tk 8 14 (.int .i64 (x : Int)) rfl (.inl ⟨by rfl, by rintro w ⟨b0, b1, bc, bd, be, bf⟩; go_simp⟩) hHeld ?_
 try simp only [tp]
 refine tk 9 15 (.pointer (some ⟨pb, off + x * 6, none⟩)) rfl (.inl ⟨by rfl, by rintro w ⟨b0, b1, bc, bd, be, bf⟩; go_simp⟩) hHeld ?_
 try simp only [tp]
 refine tk 10 16 (.pointer (some ⟨pb, off + x * 6 + 4, none⟩)) rfl (.inl ⟨by rfl, by rintro w ⟨b0, b1, bc, bd, be, bf⟩; go_simp⟩) hHeld ?_
 try simp only [tp]
 refine tk 11 17 (.int .i64 p.kind) rfl (.inl ⟨by rfl, by rintro w ⟨b0, b1, bc, bd, be, bf⟩; go_simp⟩) hHeld ?_
 try simp only [tp]
 refine wpTill_ready (rs := [12]) (by kernel_rfl) (by simp) ?_
 refine AllTill.cons (o := ⟨some 18, _, _, _, _, _⟩) rfl (fun K hK => ?_) AllTill.nil
 go_simp
 refine (isOf_any k v p.kind _).mono ?_
 rintro e w2 ⟨rfl, hb2⟩
 have HB2 : Hid (Below w1.heap.size w1 w2) := (Below.refl w1.heap.size w1).drew.trans hb2
 clear hb2
 go_wp2_with fail
 refine hK.out _ _ ⟨HS.out w2 HB2.out, fun _ => trivial⟩ (fun hHeld => ?_)
 clear hK K
 try simp only [tp]
 refine wpTill_ready (rs := [13]) (by kernel_rfl) (by simp) ?_
 refine AllTill.cons (o := ⟨some 5, _, _, _, _, _⟩) rfl (fun K hK => ?_) AllTill.nil
 go_simp
 refine hK.out _ _ (Till.last (HS.out w2 HB2.out)) (fun hHeld => ?_)
 clear hK K
 try simp only [tp]
 refine wpTill_done (by kernel_rfl) ?_ _
 clear hHeld hS0 HS
 go_wp2
 go_ret
 exact ⟨rfl, HB.out.trans (HB2.out.mono HB.out.size)⟩
def fitB (ps : List Pq) (l : List Nat) (vl : List (Int × Int)) : Bool := decide (l.length = vl.length) && (l.zip vl).all fun x => isV x.2 (kindAt ps x.1)
theorem equalF_any {w : World} {C B M CB : Nat} {dv : Value} {f : List UInt8 → Option Value} {q : Pln} {b n : Int} (h : Cd w C B M dv f q b n) (hc : w.cell? ⟨CB, 0, none⟩ = some (.pointer (some ⟨C, 0, none⟩))) (po : Option Addr) (pc : Nat) (l : List Nat) (hl : RowAt w (fun _ => True) 1 (.slice po l.length pc) l.length (inC l)) (hin : ∀ x ∈ l, x < q.ps.length) (vo : Option Addr) (vc m : Nat) (vl : List (Int × Int)) (hm : m = vl.length) (hv : ValsAt w (.slice vo m vc) vl) :
  Calls Tryz.prog 146 #[.slice po l.length pc, .slice vo m vc, .func (.func 147) #[] #[.pointer (some ⟨CB, 0, none⟩)]] w fun e w' => e = .returned (.bool (fitB q.ps l vl)) ∧ Below w.heap.size w w' := by
 have HC : Hid (Cd w C B M dv f q b n ∧ w.cell? ⟨CB, 0, none⟩ = some (.pointer (some ⟨C, 0, none⟩))) := ⟨h, hc⟩
 have HL : Hid (RowAt w (fun _ => True) 1 (.slice po l.length pc) l.length (inC l) ∧ (∀ x ∈ l, x < q.ps.length)) := ⟨hl, hin⟩
 have HV : Hid (ValsAt w (.slice vo m vc) vl ∧ m = vl.length) := ⟨hv, hm⟩
 clear h hc hl hin hv
 by_cases hlm : l.length = m
 ·have HLM := hidP hlm
  have n1 : ((l.length : Int) != (m : Int)) = false := by rw [hlm]; simp
  have n2 : decide ((l.length : Int) ≠ (m : Int)) = false := by rw [hlm]; simp
  clear hlm hm
  go_enter Tryz.func146, Tryz.ntmps146
  go_wp2
  clear n1 n2
  go_loopw [17] (fun t wr => ∃ j : Nat, j ≤ l.length ∧ t = .int .i64 j ∧ Hid (Below w.heap.size w wr ∧ ∀ (k x : Nat) (y : Int × Int), k < j → l[k]? = some x → vl[k]? = some y → isV y (kindAt q.ps x) = true)) (fun t _ => l.length - (intOf t).toNat)
  case atStart => exact ⟨0, Nat.zero_le _, rfl, Below.refl _ _, fun k x y hk => by omega⟩
  case round =>
   obtain ⟨j, hj, rfl, HR⟩ := hrel
   by_cases hjl : j < l.length
   ·obtain ⟨x, hx⟩ : ∃ x, l[j]? = some x := ⟨_, List.getElem?_eq_getElem hjl⟩
    obtain ⟨y, hy⟩ : ∃ y, vl[j]? = some y := ⟨_, List.getElem?_eq_getElem (by have := HV.out.2; have := HLM.out; omega)⟩
    obtain ⟨b1, of1, c1, ev, _, _, gg⟩ := (HL.out.1.keep (stays_true HR.out.1)).at (by rw [HL.out.1.1]; omega)
    obtain ⟨rfl, rfl⟩ : po = some ⟨b1, of1, none⟩ ∧ pc = c1 := by simpa using ev
    have y0 := gg j (.int .i64 (x : Int)) (by unfold inC; rw [List.getElem?_map, cI_at hx]; rfl)
    obtain ⟨_, vo', vc', e1, hget⟩ := HV.out.1.below HR.out.1
    obtain ⟨rfl, rfl⟩ : vo = vo' ∧ vc = vc' := by have := Value.slice.inj e1; exact ⟨this.1, this.2.2⟩
    obtain ⟨b2, of2, rfl, v0, v1⟩ := hget j y hy
    have i0' : (0 : Int) ≤ (j : Int) := by omega
    have i1' : (j : Int) < (l.length : Int) := by omega
    have i2' : (j : Int) < (m : Int) := by have := HLM.out; omega
    obtain ⟨k, v⟩ := y
    obtain ⟨w1, hw1⟩ : ∃ w1, w1 = wr.alloc (.cells #[.int .i64 k, .int .i64 v] 66) := ⟨_, rfl⟩
    obtain ⟨V, hV⟩ : ∃ V, V = wr.heap.size := ⟨_, rfl⟩
    have hb1 : Below wr.heap.size wr w1 := by rw [hw1]; exact bal
    have hr1 : w1.heap[V]? = some (.cells #[.int .i64 k, .int .i64 v] 66 (0, 0)) := by rw [hw1, hV]; exact heap_alloc_new _ _
    have z0 : w1.cell? ⟨V, 0, none⟩ = some (.int .i64 k) := cr hr1 rfl
    have z1 : w1.cell? ⟨V, 0 + 1, none⟩ = some (.int .i64 v) := cr hr1 rfl
    have hbw : Below w.heap.size w w1 := HR.out.1.trans (hb1.mono HR.out.1.size)
    obtain ⟨bb, hbb⟩ : ∃ bb, bb = isV (k, v) (kindAt q.ps x) := ⟨_, rfl⟩
    have HCA : Hid (Calls Tryz.prog 147 #[.int .i64 (x : Int), .agg #[.int .i64 k, .int .i64 v], .pointer (some ⟨CB, 0, none⟩)] w1 fun e w' => e = .returned (.bool bb) ∧ Below w1.heap.size w1 w') := by rw [hbb]; exact fit1_any (HC.out.1.keep hbw) (cell_keep hbw HC.out.2) x (HL.out.2 x (List.mem_of_getElem? hx)) k v
    have HJ : Hid (j < l.length ∧ l[j]? = some x ∧ vl[j]? = some (k, v) ∧ bb = isV (k, v) (kindAt q.ps x)) := ⟨hjl, hx, hy, hbb⟩
    have HRR : Hid (∀ (k x : Nat) (y : Int × Int), k < j → l[k]? = some x → vl[k]? = some y → isV y (kindAt q.ps x) = true) := HR.out.2
    have HBW := hidP hbw
    have N4 : Hid (wrap64 ((j : Int) + 1) = (j : Int) + 1) := by have := HJ.out.1; have hx := HL.out.1.2.1; unfold maxLen at hx; unfold Hid wrap64; omega
    have HW1 : Hid (wr.alloc (.cells #[.int .i64 k, .int .i64 v] 66) = w1 ∧ wr.heap.size = V) := ⟨hw1.symm, hV.symm⟩
    clear hx hy ev gg e1 hget hw1 hV hb1 hr1 hbw hbb hj hjl HR
    go_upto_region 7 with fail
    rw [HW1.out.1, HW1.out.2]
    clear y0 v0 v1
    cases bb with
    | true =>
     go_wp2_with (go_at_call 147; refine HCA.out.mono ?_; rintro e w2 ⟨rfl, hb2⟩)
     have HNX : Hid (Below w.heap.size w w2 ∧ ∀ (i x : Nat) (y : Int × Int), i < j + 1 → l[i]? = some x → vl[i]? = some y → isV y (kindAt q.ps x) = true) := by
      refine ⟨HBW.out.trans (hb2.mono HBW.out.size), fun i x' y' hi hx' hy' => ?_⟩
      by_cases e : i = j
      ·subst e
       rw [HJ.out.2.1] at hx'
       rw [HJ.out.2.2.1] at hy'
       obtain rfl := Option.some.inj hx'
       obtain rfl := Option.some.inj hy'
       exact HJ.out.2.2.2.symm
      ·exact HRR.out i x' y' (by omega) hx' hy'
     clear hb2 z0 z1 HCA
     exact ⟨⟨j + 1, HJ.out.1, by (try rw [N4.out]); rfl, HNX.out⟩, by (try rw [N4.out]); have := HJ.out.1; simp [intOf]; omega⟩
    | false =>
     go_wp2_with (go_at_call 147; refine HCA.out.mono ?_; rintro e w2 ⟨rfl, hb2⟩)
     have HE : Hid (fitB q.ps l vl = false ∧ Below w.heap.size w w2) := by
      refine ⟨?_, HBW.out.trans (hb2.mono HBW.out.size)⟩
      unfold fitB
      rw [Bool.and_eq_false_iff]
      right
      rw [List.all_eq_false]
      refine ⟨(x, (k, v)), List.mem_of_getElem? (i := j) ?_, by rw [← HJ.out.2.2.2]; decide⟩
      rw [List.getElem?_zip_eq_some]
      exact ⟨HJ.out.2.1, HJ.out.2.2.1⟩
     clear hb2 z0 z1 HCA
     go_ret
     exact ⟨by rw [HE.out.1]; rfl, HE.out.2⟩
   ·obtain rfl : l.length = j := by omega
    have HE : Hid (fitB q.ps l vl = true ∧ Below w.heap.size w wr) := by
     refine ⟨?_, HR.out.1⟩
     unfold fitB
     rw [Bool.and_eq_true]
     refine ⟨decide_eq_true (by rw [HLM.out]; exact HV.out.2), List.all_eq_true.2 fun z hz => ?_⟩
     obtain ⟨i, hi⟩ := List.mem_iff_getElem?.1 hz
     obtain ⟨h1, h2⟩ := List.getElem?_zip_eq_some.1 hi
     exact HR.out.2 i _ _ (List.getElem?_eq_some_iff.1 h1).1 h1 h2
    clear hj hjl HR
    go_wp2
    go_ret
    exact ⟨by rw [HE.out.1]; rfl, HE.out.2⟩
 ·have n1 : ((l.length : Int) != (m : Int)) = true := by rw [bne_iff_ne]; omega
  have n2 : decide ((l.length : Int) ≠ (m : Int)) = true := decide_eq_true (by omega)
  have HE : Hid (fitB q.ps l vl = false) := by
   unfold Hid fitB
   rw [decide_eq_false (by rw [← hm]; exact hlm)]
   rfl
  clear hlm hm
  go_enter Tryz.func146, Tryz.ntmps146
  go_wp2
  go_ret
  exact ⟨by rw [HE.out]; rfl, Below.refl _ _⟩
theorem fit_any {w : World} {C B M : Nat} {dv : Value} {f : List UInt8 → Option Value} {q : Pln} {b n : Int} (h : Cd w C B M dv f q b n) (po : Option Addr) (pc : Nat) (l : List Nat) (hl : RowAt w (fun _ => True) 1 (.slice po l.length pc) l.length (inC l)) (hin : ∀ x ∈ l, x < q.ps.length) (vo : Option Addr) (vc m : Nat) (vl : List (Int × Int)) (hm : m = vl.length) (hv : ValsAt w (.slice vo m vc) vl) :
  Calls Tryz.prog 102 #[.pointer (some ⟨C, 0, none⟩), .slice po l.length pc, .slice vo m vc] w fun e w' => e = .returned (.bool (fitB q.ps l vl)) ∧ Below w.heap.size w w' := by
 obtain ⟨w1, hw1⟩ : ∃ w1, w1 = w.alloc (.cells #[.pointer (some ⟨C, 0, none⟩)] 113) := ⟨_, rfl⟩
 obtain ⟨V, hV⟩ : ∃ V, V = w.heap.size := ⟨_, rfl⟩
 have hb1 : Below w.heap.size w w1 := by rw [hw1]; exact bal
 have hr1 : w1.heap[V]? = some (.cells #[.pointer (some ⟨C, 0, none⟩)] 113 (0, 0)) := by rw [hw1, hV]; exact heap_alloc_new _ _
 have HCA : Hid (Calls Tryz.prog 146 #[.slice po l.length pc, .slice vo m vc, .func (.func 147) #[] #[.pointer (some ⟨V, 0, none⟩)]] w1 fun e w' => e = .returned (.bool (fitB q.ps l vl)) ∧ Below w1.heap.size w1 w') := equalF_any (h.keep hb1) (cr hr1 rfl) po pc l (hl.keep (stays_true hb1)) hin vo vc m vl hm (hv.below hb1)
 have HB := hidP hb1
 have HW1 : Hid (w.alloc (.cells #[.pointer (some ⟨C, 0, none⟩)] 113) = w1 ∧ w.heap.size = V) := ⟨hw1.symm, hV.symm⟩
 clear h hl hin hm hv hw1 hV hb1 hr1
 go_enter Tryz.func102, Tryz.ntmps102
 go_upto_region 1 with fail
 rw [HW1.out.1, HW1.out.2]
 go_wp2_with (go_at_call 146; refine HCA.out.mono ?_; rintro e w2 ⟨rfl, hb2⟩)
 have HB2 : Hid (Below w.heap.size w w2) := HB.out.trans (hb2.mono HB.out.size)
 clear hb2
 go_ret
 exact ⟨rfl, HB2.out⟩
theorem areInputs_any {w : World} {C B M : Nat} {dv : Value} {f : List UInt8 → Option Value} {q : Pln} {b n : Int} (h : Cd w C B M dv f q b n) (hin : ∀ x ∈ q.is, x < q.ps.length) (vo : Option Addr) (vc m : Nat) (vl : List (Int × Int)) (hm : m = vl.length) (hv : ValsAt w (.slice vo m vc) vl) :
  Calls Tryz.prog 55 #[.pointer (some ⟨C, 0, none⟩), .slice vo m vc] w fun e w' => e = .returned (.bool (fitB q.ps q.is vl)) ∧ Below w.heap.size w w' := by
 obtain ⟨vi, vt, vk, vx, va, vd, ⟨l1, _⟩, hvi, _⟩ := h.pln.list
 obtain ⟨o, c, e, _⟩ := hvi.2.2
 subst e
 have c0 := h.c0
 have HCA : Hid (Calls Tryz.prog 102 #[.pointer (some ⟨C, 0, none⟩), .slice o q.is.length c, .slice vo m vc] w fun e w' => e = .returned (.bool (fitB q.ps q.is vl)) ∧ Below w.heap.size w w') := fit_any h o c q.is hvi hin vo vc m vl hm hv
 clear h hin hm hv hvi
 go_enter Tryz.func55, Tryz.ntmps55
 go_wp2_with (go_at_call 102; refine HCA.out.mono ?_; rintro e w2 ⟨rfl, hb2⟩)
 have HB2 := hidP hb2
 clear hb2 c0 l1
 go_ret
 exact ⟨rfl, HB2.out⟩
end Go.Proofs.YtiejfopholdbnaaGreatDoor
