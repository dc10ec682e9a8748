/-
  package plan: kindsOf BY CONTRACT, of a program that is right: the kinds of its inputs, and of all parts of its terms.
-/
import Derived.Test.YtiejfopholdbnaaGreatDoorQ43
namespace Go.Proofs.YtiejfopholdbnaaGreatDoor
open Go.RowKit Go.Maps
set_option maxRecDepth 100000
set_option maxHeartbeats 4000000

mutual
theorem tyE_sz {kd : List UInt8 → Option Int} : ∀ (e : Ex) {k : Int} {ps : List Int}, okE kd e → tyE kd e = some (k, ps) → ps.length = szE e
 | .mk op n s l, k, ps, ho, h => by
  unfold okE at ho
  obtain ⟨_, _, _, hc, hl⟩ := ho
  unfold tyE at h
  unfold szE
  by_cases hn : op.data.toList = lName
  ·rw [if_pos hn] at h hc
   rw [hc.2]
   cases hk : kd s.data.toList with
   | none => rw [hk] at h; cases h
   | some q =>
    rw [hk] at h
    obtain ⟨_, rfl⟩ : q = k ∧ [q] = ps := by simpa using h
    simp [szL]
  ·rw [if_neg hn] at h
   cases ht : tyL kd l with
   | none => rw [ht] at h; cases h
   | some r =>
    obtain ⟨ks, qs⟩ := r
    rw [ht] at h
    simp only at h
    cases hk : opK op.data.toList ks with
    | none => rw [hk] at h; cases h
    | some q =>
     rw [hk] at h
     obtain ⟨_, rfl⟩ : q = k ∧ qs ++ [q] = ps := by simpa using h
     have := tyL_sz l hl ht
     rw [List.length_append, this, List.length_singleton]
theorem tyL_sz {kd : List UInt8 → Option Int} : ∀ (l : List Ex) {ks ps : List Int}, okL kd l → tyL kd l = some (ks, ps) → ps.length = szL l
 | [], ks, ps, _, h => by
  unfold tyL at h
  obtain ⟨_, rfl⟩ : [] = ks ∧ [] = ps := by simpa using h
  simp [szL]
 | e :: es, ks, ps, ho, h => by
  unfold okL at ho
  unfold tyL at h
  cases he : tyE kd e with
  | none => rw [he] at h; cases h
  | some r =>
   obtain ⟨k, q1⟩ := r
   rw [he] at h
   simp only at h
   cases ht : tyL kd es with
   | none => rw [ht] at h; cases h
   | some r2 =>
    obtain ⟨ks', q2⟩ := r2
    rw [ht] at h
    obtain ⟨_, rfl⟩ : k :: ks' = ks ∧ q1 ++ q2 = ps := by simpa using h
    have h1 := tyE_sz e ho.1 he
    have h2 := tyL_sz es ho.2 ht
    rw [List.length_append, h1, h2]
    simp [szL]
end
def kAl (f : List UInt8 → Option Int) (l : List (ByteArray × Int)) : List UInt8 → Option Int := l.foldl kStep f
theorem kRun_kAl : ∀ {l : List (ByteArray × Int)} {f g : List UInt8 → Option Int}, kRun f l = some g → g = kAl f l
 | [], f, g, h => by
  obtain rfl : f = g := by simpa [kRun] using h
  rfl
 | v :: l, f, g, h => by
  unfold kRun at h
  split at h
  ·cases h
  ·have := kRun_kAl (l := l) (f := kStep f v) h
   exact this
theorem kAl_snoc {f : List UInt8 → Option Int} {l : List (ByteArray × Int)} {j : Nat} {v : ByteArray × Int} (h : l[j]? = some v) : kAl f (l.take (j + 1)) = kStep (kAl f (l.take j)) v := by
 unfold kAl
 rw [List.take_add_one, h, List.foldl_append]
 rfl
theorem append_noI {w : World} {base n : Nat} {v : Value} {xs : List Value} (hown : w.ownsRow base 3 1 v n xs) (p : Option Addr) (c : Nat) (ty : TypeId) :
  (Builtin.append_ #[30, 30] ty #[v, .slice p 0 c]).run Tryz.prog w = .ok v w := by
 obtain ⟨i0, hi0, hz0, hz1, hz2⟩ := info_parts Tryz.infoInt
 have ht := Tryz.underlying30
 rcases hown.2 with ⟨rfl, rfl⟩ | ⟨g, cap, cur, rfl, _, _, hnc, _⟩
 ·cases p <;> simp [Builtin.append_, run_underlying ht, sizeOf, typeInfo, hi0, Builtin.lenOf, Builtin.firstCells, loadCells, loadCellsFrom]
 ·cases p <;> simp [Builtin.append_, run_underlying ht, sizeOf, typeInfo, hi0, Builtin.lenOf, Builtin.firstCells, hnc, loadCells, loadCellsFrom, storeCells]
theorem pints_of_owns {w : World} {base n : Nat} {o : Option Addr} {c : Nat} {l : List Int} (h : w.ownsRow base 3 1 (.slice o n c) n (l.map (Value.int .i64))) (hn : l.length = n) (hm : n ≤ maxLen) : IntsAt w (.slice o n c) l := by
 subst hn
 refine ⟨hm, o, c, rfl, fun k x hk => ?_⟩
 have hlt := (List.getElem?_eq_some_iff.1 hk).1
 obtain ⟨g, cap, e, _, _⟩ := h.form (by omega)
 obtain ⟨rfl, rfl⟩ : o = some ⟨g, 0, none⟩ ∧ c = cap := by simpa using e
 have hadd' : ∀ j, (⟨g, 0, none⟩ : Addr).add j = ⟨g, 0 + j, none⟩ := fun j => by unfold Addr.add; split <;> simp_all
 refine ⟨g, 0, rfl, ?_⟩
 rw [← hadd']
 exact h.cells (g := g) rfl k _ (by simp [hk])
structure KoS (w0 : World) (K nK : Nat) (f : List UInt8 → Option Int) (v : Value) (ks : List Int) (u : Value) (m : Nat) (cs : List Value) (wr : World) : Prop where
 sep : Sep wr w0.heap.size (fun _ => False) [oMap K nK (kindF f), oRow w0.heap.size 3 1 v ks.length (kCells ks), oRow w0.heap.size 92 4 u m cs]
 below : Below w0.heap.size w0 wr
section
variable {w0 wr w' : World} {K nK : Nat} {f : List UInt8 → Option Int} {v : Value} {ks : List Int} {u : Value} {m : Nat} {cs : List Value}
theorem KoS.keep (h : KoS w0 K nK f v ks u m cs wr) (hb : Below wr.heap.size wr w') : KoS w0 K nK f v ks u m cs w' := ⟨h.sep.keep hb, h.below.trans (hb.mono h.below.size)⟩
theorem KoS.fn (h : KoS w0 K nK f v ks u m cs wr) : FnAt wr K nK (kindF f) := h.sep.is 0 _ rfl
theorem KoS.ints (h : KoS w0 K nK f v ks u m cs wr) : wr.ownsRow w0.heap.size 3 1 v ks.length (kCells ks) := h.sep.is 1 _ rfl
theorem KoS.terms (h : KoS w0 K nK f v ks u m cs wr) : wr.ownsRow w0.heap.size 92 4 u m cs := h.sep.is 2 _ rfl
theorem KoS.name (h : KoS w0 K nK f v ks u m cs wr) {s : ByteArray × Int} (hf : FnAt w' K (nK + 1) (kindF (kStep f s))) (hg : wr.grownBy w' (some K)) : KoS w0 K (nK + 1) (kStep f s) v ks u m cs w' :=
 ⟨h.sep.step (i := 0) (c := oMap K nK (kindF f)) (c' := oMap K (nK + 1) (kindF (kStep f s))) rfl hg hf (fun _ hq => .inl hq), h.sep.below (i := 0) (c := oMap K nK (kindF f)) rfl hg h.below⟩
theorem KoS.kind (h : KoS w0 K nK f v ks u m cs wr) {k : Int} {g cap : Nat} (ho : w'.ownsRow w0.heap.size 3 1 (.slice (some ⟨g, 0, none⟩) (ks.length + 1) cap) (ks.length + 1) (kCells ks ++ [.int .i64 k])) (hg : wr.grownBy w' v.ownBlock) (ha : v.ownBlock = some g ∨ g = wr.heap.size) : KoS w0 K nK f (.slice (some ⟨g, 0, none⟩) (ks.length + 1) cap) (ks ++ [k]) u m cs w' := by
 refine ⟨?_, h.sep.below (i := 1) rfl hg h.below⟩
 have := h.sep.grow (i := 1) rfl ho hg ha
 rw [show kCells (ks ++ [k]) = kCells ks ++ [.int .i64 k] from by simp [kCells], List.length_append]
 exact this
theorem KoS.term (h : KoS w0 K nK f v ks u m cs wr) {xs : List Value} {g cap : Nat} (ho : w'.ownsRow w0.heap.size 92 4 (.slice (some ⟨g, 0, none⟩) (m + 1) cap) (m + 1) (cs ++ xs)) (hg : wr.grownBy w' u.ownBlock) (ha : u.ownBlock = some g ∨ g = wr.heap.size) : KoS w0 K nK f v ks (.slice (some ⟨g, 0, none⟩) (m + 1) cap) (m + 1) (cs ++ xs) w' :=
 ⟨h.sep.grow (i := 2) rfl ho hg ha, h.sep.below (i := 2) rfl hg h.below⟩
end
theorem KoS.start (w1 : World) : KoS w1 w1.heap.size 0 (fun _ => none) (.slice none 0 0) [] (.slice none 0 0) 0 [] (w1.alloc (.map #[] 0)) := by
 have hb : Below w1.heap.size w1 (w1.alloc (.map #[] 0)) := bal
 refine ⟨?_, hb⟩
 have s0 : Sep (w1.alloc (.map #[] 0)) w1.heap.size (fun _ => False) [] := Sep.nil (fun _ h => h.elim) hb.size
 have s1 := s0.head (oRow w1.heap.size 92 4 (.slice none 0 0) 0 []) (World.ownsRow_nil _ _ _ _) (fun _ h => by simp [oRow, Value.ownBlock] at h)
 have s2 := s1.head (oRow w1.heap.size 3 1 (.slice none 0 0) 0 []) (World.ownsRow_nil _ _ _ _) (fun _ h => by simp [oRow, Value.ownBlock] at h)
 refine s2.head (oMap w1.heap.size 0 (kindF fun _ => none)) (by rw [kindF_none]; exact FnAt.made w1) (fun _ h => ?_)
 cases h
 refine ⟨Nat.le_refl _, by simp, id, fun d hd => ?_⟩
 simp only [List.mem_cons, List.not_mem_nil, or_false] at hd
 rcases hd with rfl | rfl <;> exact fun e => by simp [oRow, Value.ownBlock] at e
theorem pkindsOf_any (w : World) (S : Nat → Prop) (p : Pg) (o1 o2 o3 o4 o5 : Option Addr) (c1 c2 c3 c4 c5 : Nat) (hp : PgAt w S p (.slice o1 p.ins.length c1) (.slice o2 p.outs.length c2) (.slice o3 p.fs.length c3) (.slice o4 p.asserts.length c4) (.slice o5 p.checks.length c5)) (hok : PgOk p) (h0 : flatC p = 0) (et bt : TypeId) (eq bq : Value) (he : w.cell? ⟨3, 0, none⟩ = some (.iface et eq)) (hbd : w.cell? ⟨2, 0, none⟩ = some (.iface bt bq)) :
  Calls Tryz.prog 141 #[.agg #[.slice o1 p.ins.length c1, .slice o2 p.outs.length c2, .slice o3 p.fs.length c3, .slice o4 p.asserts.length c4, .slice o5 p.checks.length c5]] w fun e w' => Below w.heap.size w w' ∧ ∃ o c qs, tyL (kAl (fun _ => none) (varsP p)) (termsP p) = some (kindsP p, qs) ∧ qs.length = szL (termsP p) ∧ e = .returned (.tuple #[.slice o (p.ins.length + qs.length) c, .nilIface]) ∧ IntsAt w' (.slice o (p.ins.length + qs.length) c) (p.ins.map Ex.n ++ qs) := by
 obtain ⟨i0, hi0, hz0, hz1, hz2⟩ := info_parts Tryz.infoTerm
 obtain ⟨k0, hk0, ky0, ky1, ky2⟩ := info_parts Tryz.infoInt
 have hmm := @run_makeMap Tryz.prog
 obtain ⟨kd, hkr, _, hfm, _, _, hsz, qs, hty⟩ := flatC_zero h0
 obtain ⟨hin, _, ⟨xs, hfr, hfi⟩, ⟨x4, h4, g4⟩, ⟨x5, h5, g5⟩⟩ := hp
 obtain ⟨ys, hys, hyx⟩ := hfi.terms
 obtain ⟨w1, hw1⟩ : ∃ w1, w1 = w.alloc (.cells #[.slice o1 p.ins.length c1, .slice o2 p.outs.length c2, .slice o3 p.fs.length c3, .slice o4 p.asserts.length c4, .slice o5 p.checks.length c5] 39) := ⟨_, rfl⟩
 obtain ⟨P, hP⟩ : ∃ P, P = w.heap.size := ⟨_, rfl⟩
 have hb1 : Below w.heap.size w w1 := by rw [hw1]; exact bal
 have hr1 : w1.heap[P]? = some (.cells #[.slice o1 p.ins.length c1, .slice o2 p.outs.length c2, .slice o3 p.fs.length c3, .slice o4 p.asserts.length c4, .slice o5 p.checks.length c5] 39 (0, 0)) := by rw [hw1, hP]; exact heap_alloc_new _ _
 obtain ⟨w2, hw2⟩ : ∃ w2, w2 = w1.alloc (.map #[] 0) := ⟨_, rfl⟩
 obtain ⟨K, hK⟩ : ∃ K, K = w1.heap.size := ⟨_, rfl⟩
 have HK2 : Hid (KoS w1 K 0 (fun _ => none) (.slice none 0 0) [] (.slice none 0 0) 0 [] w2) := by rw [hw2, hK]; exact KoS.start w1
 have e0 : w2.cell? ⟨P, 0, none⟩ = some (.slice o1 p.ins.length c1) := by rw [cell_of_row w2 _ _ _ _ (0, 0) (row_keep HK2.out.below hr1)]; rfl
 have HW1 : Hid (w.alloc (.cells #[.slice o1 p.ins.length c1, .slice o2 p.outs.length c2, .slice o3 p.fs.length c3, .slice o4 p.asserts.length c4, .slice o5 p.checks.length c5] 39) = w1 ∧ w.heap.size = P ∧ w1.alloc (.map #[] 0) = w2 ∧ w1.heap.size = K) := ⟨hw1.symm, hP.symm, hw2.symm, hK.symm⟩
 have HR1 := hidP hr1
 have HB1 := hidP hb1
 have HIN := hidP hin
 have HFR := hidP hfr
 have HFI := hidP hfi
 have HYS : Hid (ExIn w S (p.fs.map fun f => f.e) ys ∧ ∀ i k, k < 4 → i < p.fs.length → ys[i * 4 + k]? = xs[i * 6 + 2 + k]?) := ⟨hys, hyx⟩
 have H4 : Hid (RowAt w S 4 (.slice o4 p.asserts.length c4) p.asserts.length x4 ∧ ExIn w S p.asserts x4) := ⟨h4, g4⟩
 have H5 : Hid (RowAt w S 4 (.slice o5 p.checks.length c5) p.checks.length x5 ∧ ExIn w S p.checks x5) := ⟨h5, g5⟩
 have HEE : Hid (w.cell? ⟨3, 0, none⟩ = some (.iface et eq) ∧ w.cell? ⟨2, 0, none⟩ = some (.iface bt bq)) := ⟨he, hbd⟩
 have HKD : Hid (kd = kAl (fun _ => none) (varsP p) ∧ okL kd (termsP p) ∧ szL (termsP p) ≤ 4000 ∧ tyL kd (termsP p) = some (kindsP p, qs) ∧ qs.length = szL (termsP p)) := ⟨kRun_kAl hkr, fmL_ok _ hfm hok.small, hsz, hty, tyL_sz _ (fmL_ok _ hfm hok.small) hty⟩
 have HLN : Hid (p.ins.length + p.fs.length ≤ 1000 ∧ p.fs.length + (p.asserts.length + p.checks.length) ≤ 4000) := ⟨hok.vars, hok.terms⟩
 have HNM : Hid (∀ v ∈ varsP p, v.1.size ≤ maxLen) := hok.names
 have HVL : Hid ((varsP p).length = p.ins.length + p.fs.length ∧ (∀ j, j < p.ins.length → ∀ x, p.ins[j]? = some x → (varsP p)[j]? = some (x.op, x.n)) ∧ (∀ j x, p.fs[j]? = some x → (varsP p)[p.ins.length + j]? = some (x.name, x.kind))) := by
  refine ⟨by simp [varsP, varsE, varsF], fun j hj x hx => ?_, fun j x hx => ?_⟩
  ·unfold varsP varsE
   rw [List.getElem?_append_left (by simpa using hj), List.getElem?_map, hx]; rfl
  ·unfold varsP varsE varsF
   rw [List.getElem?_append_right (by simp), List.length_map, Nat.add_sub_cancel_left, List.getElem?_map, hx]; rfl
 clear hok h0 he hbd hkr hfm hsz hty hin hfr hfi h4 g4 h5 g5 hys hyx hw1 hP hb1 hr1 hw2 hK
 go_enter Tryz.func141, Tryz.ntmps141
 go_upto_region 1 with fail
 rw [HW1.out.1, HW1.out.2.1]
 go_upto_region 3 with fail
 rw [HW1.out.2.2.1, HW1.out.2.2.2]
 clear hmm
 go_wp2
 clear e0
 go_loopw [4, 17] (fun v t wr => ∃ (j nK : Nat), j ≤ p.ins.length ∧ t = .int .i64 j ∧ nK ≤ j ∧ Hid (KoS w1 K nK (kAl (fun _ => none) ((varsP p).take j)) v ((p.ins.take j).map Ex.n) (.slice none 0 0) 0 [] wr)) (fun _ t _ => p.ins.length - (intOf t).toNat)
 case atStart => exact ⟨0, 0, Nat.zero_le _, rfl, Nat.le_refl _, HK2.out⟩
 case round =>
  obtain ⟨j, nK, hj, rfl, hnK, HR⟩ := hrel
  by_cases hjl : j < p.ins.length
  ·obtain ⟨b, off, cp, ev, _, _, gg⟩ := HIN.out.at (by rw [varCells_length]; omega)
   obtain ⟨rfl, rfl⟩ : o1 = some ⟨b, off, none⟩ ∧ c1 = cp := by simpa using ev
   obtain ⟨x1, x2⟩ := varCells_at hjl
   have hbr := HB1.out.trans (HR.out.below.mono HB1.out.size)
   have y0 := cell_keep hbr (gg _ _ x1)
   have y1 := cell_keep hbr (gg _ _ x2)
   rw [← Nat.add_assoc] at y1
   have hjx : p.ins[j]? = some p.ins[j] := List.getElem?_eq_getElem hjl
   obtain ⟨name, hname⟩ : ∃ name, name = p.ins[j].op := ⟨_, rfl⟩
   obtain ⟨kind, hkind⟩ : ∃ kind, kind = p.ins[j].n := ⟨_, rfl⟩
   rw [← hname] at y0
   rw [← hkind] at y1
   have i0' : (0 : Int) ≤ (j : Int) := by omega
   have i1' : (j : Int) < (p.ins.length : Int) := by omega
   have hvj : (varsP p)[j]? = some (name, kind) := by rw [HVL.out.2.1 j hjl _ hjx, hname, hkind]
   obtain ⟨w3, hw3⟩ : ∃ w3, w3 = wr.alloc (.cells #[.string name, .int .i64 kind] 157) := ⟨_, rfl⟩
   obtain ⟨V, hV⟩ : ∃ V, V = wr.heap.size := ⟨_, rfl⟩
   have hb3 : Below wr.heap.size wr w3 := by rw [hw3]; exact bal
   have hr3 : w3.heap[V]? = some (.cells #[.string name, .int .i64 kind] 157 (0, 0)) := by rw [hw3, hV]; exact heap_alloc_new _ _
   have z1 : w3.cell? ⟨V, 0 + 1, none⟩ = some (.int .i64 kind) := cr hr3 rfl
   have HK4 : Hid (KoS w1 K nK (kAl (fun _ => none) ((varsP p).take j)) u4 ((p.ins.take j).map Ex.n) (.slice none 0 0) 0 [] (w3.alloc (.cells #[.int .i64 kind] 3))) := (HR.out.keep hb3).keep (bal)
   have HNW : Hid (∀ k x, [Value.int .i64 kind][k]? = some x → (w3.alloc (.cells #[.int .i64 kind] 3)).cell? ((⟨w3.heap.size, 0, none⟩ : Addr).add k) = some x) := World.news_of_block (heap_alloc_new w3 _)
   have HR4 : Hid ((w3.alloc (.cells #[.int .i64 kind] 3)).heap[V]? = some (.cells #[.string name, .int .i64 kind] 157 (0, 0))) := row_keep ((Below.refl w3.heap.size w3).alloc (Nat.le_refl _) _) hr3
   have HVN : Hid (V < (w3.alloc (.cells #[.int .i64 kind] 3)).heap.size ∧ (∀ k, u4.ownBlock = some k → k ≠ V) ∧ K ≠ V) := ⟨(Array.getElem?_eq_some_iff.1 HR4.out).1, fun k hk => by have := (HR.out.sep.lt 1 _ k rfl hk).2.1; omega, by have := (HR.out.sep.lt 0 _ K rfl rfl).2.1; omega⟩
   have hll : ((p.ins.take j).map Ex.n).length = j := by rw [List.length_map, List.length_take]; omega
   have HJ : Hid (j < p.ins.length ∧ nK ≤ j ∧ (varsP p)[j]? = some (name, kind) ∧ name.size ≤ maxLen ∧ ((p.ins.take j).map Ex.n).length = j ∧ (p.ins.take (j + 1)).map Ex.n = (p.ins.take j).map Ex.n ++ [kind]) := ⟨hjl, hnK, hvj, HNM.out _ (List.mem_of_getElem? hvj), hll, by rw [List.take_add_one, hjx, List.map_append, hkind]; rfl⟩
   have HIR : Hid ((w3.alloc (.cells #[.int .i64 kind] 3)).ownsRow w1.heap.size 3 1 u4 j (kCells ((p.ins.take j).map Ex.n))) := by have := HK4.out.ints; rwa [hll] at this
   have N4 : Hid (wrap64 ((j : Int) + 1) = (j : Int) + 1) := by have := HLN.out; have := HJ.out.1; unfold Hid wrap64; omega
   have HMX : Hid (j + 1 ≤ maxLen ∧ (j + 1) * 8 ≤ 140737488355328) := by have := HLN.out; have := HJ.out.1; unfold Hid maxLen; omega
   have HW3 : Hid (wr.alloc (.cells #[.string name, .int .i64 kind] 157) = w3 ∧ wr.heap.size = V) := ⟨hw3.symm, hV.symm⟩
   clear ev gg x1 x2 hbr hjx hname hkind hvj hw3 hV hb3 hr3 hll hj hjl hnK HR
   go_upto_region 6 with fail
   rw [HW3.out.1, HW3.out.2]
   clear y0 y1
   go_upto_region 7 with (at_builtin; refine wpList_append_lies _ rfl _ _ 30 rfl w1.heap.size 3 k0 _ 1 8 Tryz.underlying30 hk0 ky0 ky1 ky2 rfl (by omega) u4 j _ rfl HIR.out ⟨w3.heap.size, 0, none⟩ 1 1 _ rfl rfl HNW.out (by simp [Value.oneCell']) (by omega) HMX.out.1 HMX.out.2 HK4.out.below.size _ rfl ?_; intro g cap w5 hown5 hgrow5 hat5 hlt5)
   have hk5 := HK4.out.kind (k := kind) (g := g) (cap := cap) (w' := w5) (by rw [HJ.out.2.2.2.2.1]; exact hown5) hgrow5 hat5
   rw [HJ.out.2.2.2.2.1] at hk5
   have hr5 : w5.heap[V]? = some (.cells #[.string name, .int .i64 kind] 157 (0, 0)) := (hgrow5.block V HVN.out.1 (fun e => HVN.out.2.1 V e.symm rfl)).trans HR4.out
   have q0 : w5.cell? ⟨V, 0, none⟩ = some (.string name) := cr hr5 rfl
   have q1 : w5.cell? ⟨V, 0 + 1, none⟩ = some (.int .i64 kind) := cr hr5 rfl
   obtain ⟨w7, hup, hfn7, hgr7⟩ := hk5.fn.put Tryz.underlying96 (by have := HLN.out; have := HJ.out.1; have := HJ.out.2.1; unfold maxLen; omega) name HJ.out.2.2.2.1 (.int .i64 kind)
   rw [kindF_step _ (name, kind), ← kAl_snoc HJ.out.2.2.1] at hfn7
   have HNX : Hid (KoS w1 K (nK + 1) (kAl (fun _ => none) ((varsP p).take (j + 1))) (.slice (some ⟨g, 0, none⟩) (j + 1) cap) ((p.ins.take (j + 1)).map Ex.n) (.slice none 0 0) 0 [] w7) := by
    have h7 := hk5.name (s := (name, kind)) (w' := w7) (by rw [← kAl_snoc HJ.out.2.2.1]; exact hfn7) hgr7
    rw [← kAl_snoc HJ.out.2.2.1, ← HJ.out.2.2.2.2.2] at h7
    exact h7
   clear hown5 hgrow5 hat5 hlt5 hk5 hr5 hfn7 hgr7 z1 HK4 HR4 HNW HIR
   go_wp2
   exact ⟨⟨j + 1, nK + 1, HJ.out.1, by (try rw [N4.out]); rfl, by have := HJ.out.2.1; omega, HNX.out⟩, by (try rw [N4.out]); have := HJ.out.1; simp [intOf]; omega⟩
  ·obtain rfl : p.ins.length = j := by omega
   have hll : (p.ins.take p.ins.length).map Ex.n = p.ins.map Ex.n := by rw [List.take_of_length_le (Nat.le_refl _)]
   rw [hll] at HR
   have HK0 : Hid (nK ≤ p.ins.length ∧ KoS w1 K nK (kAl (fun _ => none) ((varsP p).take p.ins.length)) u4 (p.ins.map Ex.n) (.slice none 0 0) 0 [] wr) := ⟨hnK, HR.out⟩
   have b2 : wr.cell? ⟨P, 0 + 2, none⟩ = some (.slice o3 p.fs.length c3) := by rw [cell_of_row wr _ _ _ _ (0, 0) (row_keep HR.out.below HR1.out)]; rfl
   obtain ⟨uI, huI⟩ : ∃ uI, uI = u4 := ⟨_, rfl⟩
   have HUI := hidP huI
   clear hll hj hjl hnK HR huI
   go_wp2
   clear b2
   go_loopw [8, 35] (fun v t wr => ∃ (j nK : Nat), j ≤ p.fs.length ∧ t = .int .i64 j ∧ nK ≤ p.ins.length + j ∧ Hid (KoS w1 K nK (kAl (fun _ => none) ((varsP p).take (p.ins.length + j))) uI (p.ins.map Ex.n) v j (ys.take (j * 4)) wr)) (fun _ t _ => p.fs.length - (intOf t).toNat)
   case atStart => exact ⟨0, nK, Nat.zero_le _, rfl, HK0.out.1, by rw [HUI.out]; exact HK0.out.2⟩
   case round =>
    obtain ⟨j, nK, hj, rfl, hnK, HR⟩ := hrel
    by_cases hjl : j < p.fs.length
    ·obtain ⟨name, kind, op', n', s', es, oo, cc, zs, e, x0, x1, x2, x3, x4', x5', _, _⟩ := HFI.out.at hjl
     obtain ⟨b, off, cp, ev, _, _, gg⟩ := HFR.out.at (by have := HFR.out.1; omega)
     obtain ⟨rfl, rfl⟩ : o3 = some ⟨b, off, none⟩ ∧ c3 = cp := by simpa using ev
     have hbr : Below w.heap.size w wr := HB1.out.trans (HR.out.below.mono HB1.out.size)
     have y0 := cell_keep hbr (gg _ _ x0)
     have y1 := cell_keep hbr (gg _ _ x1)
     have y2 := cell_keep hbr (gg _ _ x2)
     have y3 := cell_keep hbr (gg _ _ x3)
     have y4 := cell_keep hbr (gg _ _ x4')
     have y5 := cell_keep hbr (gg _ _ x5')
     rw [← Nat.add_assoc] at y1 y2 y3 y4 y5
     have i0' : (0 : Int) ≤ (j : Int) := by omega
     have i1' : (j : Int) < (p.fs.length : Int) := by omega
     have ej : p.fs[j]? = some ⟨name, kind, .mk op' n' s' es⟩ := by rw [List.getElem?_eq_getElem hjl, e]
     have hvj : (varsP p)[p.ins.length + j]? = some (name, kind) := HVL.out.2.2 j _ ej
     have HT4 : Hid (ys.take ((j + 1) * 4) = ys.take (j * 4) ++ [.string op', .int .i64 n', .string s', .slice oo es.length cc]) :=
      take_four (by rw [← x2]; exact HYS.out.2 j 0 (by omega) hjl) (by rw [← x3]; exact HYS.out.2 j 1 (by omega) hjl) (by rw [← x4']; exact HYS.out.2 j 2 (by omega) hjl) (by rw [← x5']; exact HYS.out.2 j 3 (by omega) hjl)
     obtain ⟨w3, hw3⟩ : ∃ w3, w3 = wr.alloc (.cells #[.string name, .int .i64 kind, .string op', .int .i64 n', .string s', .slice oo es.length cc] 95) := ⟨_, rfl⟩
     obtain ⟨V, hV⟩ : ∃ V, V = wr.heap.size := ⟨_, rfl⟩
     have hb3 : Below wr.heap.size wr w3 := by rw [hw3]; exact bal
     have hr3 : w3.heap[V]? = some (.cells #[.string name, .int .i64 kind, .string op', .int .i64 n', .string s', .slice oo es.length cc] 95 (0, 0)) := by rw [hw3, hV]; exact heap_alloc_new _ _
     have z1 : w3.cell? ⟨V, 0 + 2, none⟩ = some (.string op') := cr hr3 rfl
     have z2 : w3.cell? ⟨V, 0 + 2 + 1, none⟩ = some (.int .i64 n') := cr hr3 rfl
     have z3 : w3.cell? ⟨V, 0 + 2 + 2, none⟩ = some (.string s') := cr hr3 rfl
     have z4 : w3.cell? ⟨V, 0 + 2 + 3, none⟩ = some (.slice oo es.length cc) := cr hr3 rfl
     have HK4 : Hid (KoS w1 K nK (kAl (fun _ => none) ((varsP p).take (p.ins.length + j))) uI (p.ins.map Ex.n) u8 j (ys.take (j * 4)) (w3.alloc (.cells #[.string op', .int .i64 n', .string s', .slice oo es.length cc] 92))) := (HR.out.keep hb3).keep (bal)
     have HNW : Hid (∀ k x, #[.string op', .int .i64 n', .string s', .slice oo es.length cc].toList[k]? = some x → (w3.alloc (.cells #[.string op', .int .i64 n', .string s', .slice oo es.length cc] 92)).cell? ((⟨w3.heap.size, 0, none⟩ : Addr).add k) = some x) := World.news_of_block (heap_alloc_new w3 _)
     have HR4 : Hid ((w3.alloc (.cells #[.string op', .int .i64 n', .string s', .slice oo es.length cc] 92)).heap[V]? = some (.cells #[.string name, .int .i64 kind, .string op', .int .i64 n', .string s', .slice oo es.length cc] 95 (0, 0))) := row_keep ((Below.refl w3.heap.size w3).alloc (Nat.le_refl _) _) hr3
     have HVN : Hid (V < (w3.alloc (.cells #[.string op', .int .i64 n', .string s', .slice oo es.length cc] 92)).heap.size ∧ (∀ k, u8.ownBlock = some k → k ≠ V)) := ⟨(Array.getElem?_eq_some_iff.1 HR4.out).1, fun k hk => by have := (HR.out.sep.lt 2 _ k rfl hk).2.1; omega⟩
     have HJ : Hid (j < p.fs.length ∧ nK ≤ p.ins.length + j ∧ (varsP p)[p.ins.length + j]? = some (name, kind) ∧ name.size ≤ maxLen) := ⟨hjl, hnK, hvj, HNM.out _ (List.mem_of_getElem? hvj)⟩
     have N4 : Hid (wrap64 ((j : Int) + 1) = (j : Int) + 1) := by have := HLN.out; have := HJ.out.1; unfold Hid wrap64; omega
     have HMX : Hid (j + 1 ≤ maxLen ∧ (j + 1) * 64 ≤ 140737488355328) := by have := HLN.out; have := HJ.out.1; unfold Hid maxLen; omega
     have HW3 : Hid (wr.alloc (.cells #[.string name, .int .i64 kind, .string op', .int .i64 n', .string s', .slice oo es.length cc] 95) = w3 ∧ wr.heap.size = V) := ⟨hw3.symm, hV.symm⟩
     clear ev gg e x0 x1 x2 x3 x4' x5' hbr ej hvj hw3 hV hb3 hr3 hj hjl hnK HR
     go_upto_region 13 with fail
     rw [HW3.out.1, HW3.out.2]
     clear y0 y1 y2 y3 y4 y5
     go_upto_region 14 with (at_builtin; refine wpList_append_lies _ rfl _ _ 37 rfl w1.heap.size 92 i0 _ 4 64 Tryz.underlying37 hi0 hz0 hz1 hz2 rfl (by omega) u8 j _ rfl HK4.out.terms ⟨w3.heap.size, 0, none⟩ 1 1 _ rfl rfl HNW.out (by simp [Value.oneCell']) (by omega) HMX.out.1 HMX.out.2 HK4.out.below.size _ rfl ?_; intro g cap w5 hown5 hgrow5 hat5 hlt5)
     have hk5 := HK4.out.term hown5 hgrow5 hat5
     have hr5 : w5.heap[V]? = some (.cells #[.string name, .int .i64 kind, .string op', .int .i64 n', .string s', .slice oo es.length cc] 95 (0, 0)) := (hgrow5.block V HVN.out.1 (fun e => HVN.out.2 V e.symm rfl)).trans HR4.out
     have q0 : w5.cell? ⟨V, 0, none⟩ = some (.string name) := cr hr5 rfl
     have q1 : w5.cell? ⟨V, 0 + 1, none⟩ = some (.int .i64 kind) := cr hr5 rfl
     obtain ⟨w7, hup, hfn7, hgr7⟩ := hk5.fn.put Tryz.underlying96 (by have := HLN.out; have := HJ.out.1; have := HJ.out.2.1; unfold maxLen; omega) name HJ.out.2.2.2 (.int .i64 kind)
     rw [kindF_step _ (name, kind), ← kAl_snoc HJ.out.2.2.1] at hfn7
     have HNX : Hid (KoS w1 K (nK + 1) (kAl (fun _ => none) ((varsP p).take (p.ins.length + (j + 1)))) uI (p.ins.map Ex.n) (.slice (some ⟨g, 0, none⟩) (j + 1) cap) (j + 1) (ys.take ((j + 1) * 4)) w7) := by
      have h7 := hk5.name (s := (name, kind)) (w' := w7) (by rw [← kAl_snoc HJ.out.2.2.1]; exact hfn7) hgr7
      rw [← kAl_snoc HJ.out.2.2.1] at h7
      rw [HT4.out]
      exact h7
     clear hown5 hgrow5 hat5 hlt5 hk5 hr5 hfn7 hgr7 z1 z2 z3 z4 HK4 HR4 HNW HT4
     go_wp2
     exact ⟨⟨j + 1, nK + 1, HJ.out.1, by (try rw [N4.out]); rfl, by have := HJ.out.2.1; omega, HNX.out⟩, by (try rw [N4.out]); have := HJ.out.1; simp [intOf]; omega⟩
    ·obtain rfl : p.fs.length = j := by omega
     have hvl : (varsP p).take (p.ins.length + p.fs.length) = varsP p := List.take_of_length_le (by rw [HVL.out.1]; exact Nat.le_refl _)
     have hyl : ys.take (p.fs.length * 4) = ys := List.take_of_length_le (by have := HYS.out.1.length; rw [List.length_map] at this; omega)
     rw [hvl, hyl, ← HKD.out.1] at HR
     obtain ⟨tb, tc, hu8, _⟩ := owns_slice HR.out.terms
     subst hu8
     obtain ⟨io, ic, huI, _⟩ := owns_slice HR.out.ints
     rw [List.length_map] at huI
     have hbw : Below w.heap.size w wr := HB1.out.trans (HR.out.below.mono HB1.out.size)
     have hr : wr.heap[P]? = some (.cells #[.slice o1 p.ins.length c1, .slice o2 p.outs.length c2, .slice o3 p.fs.length c3, .slice o4 p.asserts.length c4, .slice o5 p.checks.length c5] 39 (0, 0)) := row_keep HR.out.below HR1.out
     have b3 : wr.cell? ⟨P, 0 + 3, none⟩ = some (.slice o4 p.asserts.length c4) := cr hr rfl
     have b4 : wr.cell? ⟨P, 0 + 4, none⟩ = some (.slice o5 p.checks.length c5) := cr hr rfl
     obtain ⟨wB, hwB⟩ : ∃ wB, wB = wr.alloc (.cells #[.slice tb p.fs.length tc, .slice o4 p.asserts.length c4, .slice o5 p.checks.length c5] 37) := ⟨_, rfl⟩
     have hbB0 : Below wr.heap.size wr wB := by rw [hwB]; exact bal
     have hbB : Below w.heap.size w wB := hbw.trans (hbB0.mono hbw.size)
     have hrB : wB.heap[wr.heap.size]? = some (.cells #[.slice tb p.fs.length tc, .slice o4 p.asserts.length c4, .slice o5 p.checks.length c5] 37 (0, 0)) := by rw [hwB]; exact heap_alloc_new _ _
     have hst : Stays S (fun _ => True) w wB := fun b _ hl => ⟨trivial, hbB.block b hl⟩
     have hKB := HR.out.keep hbB0
     have htr : RowAt wB (fun _ => True) 4 (.slice tb p.fs.length tc) p.fs.length ys := (RowAt.of_owns hKB.terms).keep (fun _ _ _ => ⟨trivial, rfl⟩)
     have hcc := concatE_any wB (fun _ => True) [(tb, p.fs.length, tc, ys), (o4, p.asserts.length, c4, x4), (o5, p.checks.length, c5, x5)] wr.heap.size 3 (fun i q hq => by
      match i, hq with
      | 0, hq =>
       obtain rfl := Option.some.inj hq
       exact ⟨cr hrB rfl, htr, exCells_one HYS.out.1⟩
      | 1, hq =>
       obtain rfl := Option.some.inj hq
       exact ⟨cr hrB rfl, H4.out.1.keep hst, exCells_one H4.out.2⟩
      | 2, hq =>
       obtain rfl := Option.some.inj hq
       exact ⟨cr hrB rfl, H5.out.1.keep hst, exCells_one H5.out.2⟩
      | i + 3, hq => cases hq) (by simp) (by have := HLN.out; simp [srxN]; omega)
     obtain ⟨N, hN⟩ : ∃ N, N = (termsP p).length := ⟨_, rfl⟩
     rw [show srxN [(tb, p.fs.length, tc, ys), (o4, p.asserts.length, c4, x4), (o5, p.checks.length, c5, x5)] = N from by rw [hN]; simp [srxN, termsP], show srxC [(tb, p.fs.length, tc, ys), (o4, p.asserts.length, c4, x4), (o5, p.checks.length, c5, x5)] = ys ++ (x4 ++ x5) from by simp [srxC]] at hcc
     have HXE : Hid (ExIn w S (termsP p) (ys ++ (x4 ++ x5))) := HYS.out.1.append (H4.out.2.append H5.out.2)
     have HKB : Hid (KoS w1 K nK kd uI (p.ins.map Ex.n) (.slice tb p.fs.length tc) p.fs.length ys wB ∧ Below w.heap.size w wB) := ⟨hKB, hbB⟩
     have HNN := hidP hN
     have HUS := hidP huI
     have HWB : Hid (wr.alloc (.cells #[.slice tb p.fs.length tc, .slice o4 p.asserts.length c4, .slice o5 p.checks.length c5] 37) = wB) := hwB.symm
     have HCC := hidP hcc
     clear hvl hyl hj hjl hnK HR huI hbw hr hwB hbB0 hbB hrB hst hKB htr hcc hN
     go_wp2_with fail
     rw [HWB.out]
     refine HCC.out.mono ?_
     rintro e w6 ⟨g0, cap0, rfl, hown6, hb6⟩
     have HK6 : Hid (KoS w1 K nK kd uI (p.ins.map Ex.n) (.slice tb p.fs.length tc) p.fs.length ys w6 ∧ Below w.heap.size w w6) := ⟨HKB.out.1.keep hb6, HKB.out.2.trans (hb6.mono HKB.out.2.size)⟩
     have hbw6 := HK6.out.2
     have hrow6 : RowAt w6 (fun _ => True) 4 (.slice g0 (termsP p).length cap0) (termsP p).length (ys ++ (x4 ++ x5)) := by rw [← HNN.out]; exact (RowAt.of_owns hown6).keep (fun _ _ _ => ⟨trivial, rfl⟩)
     have hpc := parts_any kd (termsP p) w6 K nK HK6.out.1.fn HKD.out.2.1 (fun _ => True) g0 cap0 _ hrow6 (HXE.out.keep (fun b _ hl => ⟨trivial, hbw6.block b hl⟩)) et bt eq bq (cell_keep hbw6 HEE.out.1) (cell_keep hbw6 HEE.out.2)
     rw [← HNN.out] at hpc
     have HPC := hidP hpc
     clear hown6 hb6 hbw6 hrow6 hpc b3 b4 HCC
     go_wp2_with fail
     refine HPC.out.mono ?_
     rintro e w8 ⟨hb8, hopt⟩
     rcases hopt with ⟨h1, _⟩ | ⟨_, h1, _⟩ | ⟨_, ks', qs', ta, tc', h1, rfl, hia⟩
     ·exact absurd h1 (by have := HKD.out.2.2.1; omega)
     ·rw [HKD.out.2.2.2.1] at h1; cases h1
     obtain ⟨_, rfl⟩ : kindsP p = ks' ∧ qs = qs' := by rw [HKD.out.2.2.2.1] at h1; simpa using h1
     have HK8 : Hid (KoS w1 K nK kd uI (p.ins.map Ex.n) (.slice tb p.fs.length tc) p.fs.length ys w8 ∧ Below w.heap.size w w8) := ⟨HK6.out.1.keep hb8, HK6.out.2.trans (hb8.mono HK6.out.2.size)⟩
     have HIA := hidP hia
     have HEND : Hid (tyL (kAl (fun _ => none) (varsP p)) (termsP p) = some (kindsP p, qs) ∧ qs.length = szL (termsP p)) := ⟨by rw [← HKD.out.1]; exact HKD.out.2.2.2.1, HKD.out.2.2.2.2⟩
     obtain ⟨m, hm⟩ : ∃ m, m = qs.length := ⟨_, rfl⟩
     have HM : Hid (m = qs.length ∧ m ≤ 4000) := ⟨hm, by have := HKD.out.2.2.1; have := HKD.out.2.2.2.2; omega⟩
     rw [← hm] at HIA
     rw [← hm]
     clear hb8 h1 hia hm
     by_cases hm0 : m = 0
     ·subst hm0
      have hno := fun ty => append_noI (n := p.ins.length) (by have := HK8.out.1.ints; rw [List.length_map] at this; exact this) ta tc' ty
      rw [HUS.out] at hno
      rw [← HUI.out, HUS.out]
      have HQ0 : Hid (qs = []) := List.eq_nil_of_length_eq_zero HM.out.1.symm
      go_wp2_with (at_builtin; refine Lib.wpList_append_run _ rfl _ _ _ _ rfl _ _ rfl rfl _ _ (hno _) ?_)
      try simp only [Exit.inBlock, Exit.then]
      refine bodyPost_ret (results_tmp2 rfl _ _ _) rfl ?_
      refine ⟨HK8.out.2, io, ic, qs, HEND.out.1, HEND.out.2, by rw [HQ0.out]; rfl, ?_⟩
      have hi := HK8.out.1.ints
      rw [HUS.out, List.length_map] at hi
      rw [HQ0.out, List.append_nil]
      exact pints_of_owns (l := p.ins.map Ex.n) hi (by simp) (by have := HLN.out; unfold maxLen; simp only [List.length_nil]; omega)
     ·obtain ⟨q0, hq0⟩ : ∃ q0, qs[0]? = some q0 := ⟨_, List.getElem?_eq_getElem (by have := HM.out.1; omega)⟩
      obtain ⟨_, ta', tc2, e1, hget⟩ := HIA.out
      obtain ⟨rfl, rfl⟩ : ta = ta' ∧ tc' = tc2 := by have := (Value.slice.inj e1); exact ⟨this.1, this.2.2⟩
      obtain ⟨gb, goff, rfl, _⟩ := hget 0 q0 hq0
      have HNQ : Hid (∀ j u, (kCells qs)[j]? = some u → w8.cell? ((⟨gb, goff, none⟩ : Addr).add j) = some u) := fun j u hj => by
       unfold kCells at hj
       rw [List.getElem?_map] at hj
       cases hx : qs[j]? with
       | none => rw [hx] at hj; cases hj
       | some x =>
        rw [hx] at hj
        obtain ⟨b2, off2, e2, hc2⟩ := hget j x hx
        obtain ⟨rfl, rfl⟩ : gb = b2 ∧ goff = off2 := by simpa using e2
        rw [Addr.add_lit, hc2]
        exact hj
      have HQL : Hid ((kCells qs).length = m * 1 ∧ (∀ u ∈ kCells qs, u.oneCell' = true) ∧ 0 < m) := ⟨by rw [HM.out.1]; simp [kCells], fun u hu => by unfold kCells at hu; obtain ⟨x, _, rfl⟩ := List.mem_map.1 hu; rfl, by omega⟩
      have HIR : Hid (w8.ownsRow w1.heap.size 3 1 (.slice io p.ins.length ic) p.ins.length (kCells (p.ins.map Ex.n))) := by have := HK8.out.1.ints; rwa [HUS.out, List.length_map] at this
      have HMX : Hid (p.ins.length + m ≤ maxLen ∧ (p.ins.length + m) * 8 ≤ 140737488355328) := by have := HLN.out; have := HM.out.2; unfold Hid maxLen; omega
      rw [← HUI.out, HUS.out]
      clear hq0 e1 hget hm0
      go_wp2_with (at_builtin; refine wpList_append_lies _ rfl _ _ 30 rfl w1.heap.size 3 k0 _ 1 8 Tryz.underlying30 hk0 ky0 ky1 ky2 rfl (by omega) (.slice io p.ins.length ic) p.ins.length _ rfl HIR.out ⟨gb, goff, none⟩ m _ _ rfl HQL.out.1 HNQ.out HQL.out.2.1 HQL.out.2.2 HMX.out.1 HMX.out.2 HK8.out.1.below.size _ rfl ?_; intro g cap w9 hown9 hgrow9 hat9 hlt9)
      try simp only [Exit.inBlock, Exit.then]
      refine bodyPost_ret (results_tmp2 rfl _ _ _) rfl ?_
      have hb9 : Below w1.heap.size w1 w9 := by
       have hg9 := hgrow9
       rw [← HUS.out] at hg9
       exact HK8.out.1.sep.below (i := 1) rfl hg9 HK8.out.1.below
      refine ⟨HB1.out.trans (hb9.mono HB1.out.size), _, _, qs, HEND.out.1, HEND.out.2, by rw [← HM.out.1]; rfl, ?_⟩
      rw [← HM.out.1]
      refine pints_of_owns (l := p.ins.map Ex.n ++ qs) (base := w1.heap.size) ?_ (by rw [List.length_append, List.length_map, HM.out.1]) HMX.out.1
      rw [List.map_append]
      exact hown9
end Go.Proofs.YtiejfopholdbnaaGreatDoor
