/-
  package plan: resolve BY CONTRACT: a name's only part is what has its value; outputs have theirs.
-/
import Derived.Test.YtiejfopholdbnaaGreatDoorQ41
import Derived.Laws.OwnMore
namespace Go.Proofs.YtiejfopholdbnaaGreatDoor
open Go.RowKit Go.Maps
set_option maxRecDepth 100000
set_option maxHeartbeats 4000000

theorem Sep.store {w : World} {base : Nat} {F : Nat → Prop} {cs : List Own} (h : Sep w base F cs) {i : Nat} {e : TypeId} {size n g c : Nat} {v : Value} {xs : List Value} (hi : cs[i]? = some (oRow base e size v n xs)) (hv : v = .slice (some ⟨g, 0, none⟩) n c) (j : Nat) (u : Value) : Sep (w.setCell ⟨g, j, none⟩ u) base F (cs.set i (oRow base e size v n (xs.set j u))) ∧ w.grownBy (w.setCell ⟨g, j, none⟩ u) v.ownBlock := by
 subst hv
 have ho : w.ownsRow base e size (.slice (some ⟨g, 0, none⟩) n c) n xs := h.is i _ hi
 obtain ⟨h1, h2⟩ := ho.stored j u
 exact ⟨h.step hi h2 h1 (fun q hq => .inl hq), h2⟩
theorem prC_set : ∀ {ps : List Prt} {j : Nat} {p : Prt} (k : Nat) (v : Value) (p' : Prt), ps[j]? = some p → k < 6 → p.cells.set k v = p'.cells → (prC ps).set (j * 6 + k) v = prC (ps.set j p')
 | [], j, p, k, v, p', h, _, _ => by simp at h
 | x :: ps, 0, p, k, v, p', h, hk, he => by
  obtain rfl : x = p := by simpa using h
  unfold prC
  rw [List.flatMap_cons, Nat.zero_mul, Nat.zero_add, List.set_append_left _ _ (by simpa [Prt.cells] using hk), he, List.set_cons_zero, List.flatMap_cons]
 | x :: ps, j + 1, p, k, v, p', h, hk, he => by
  have := prC_set (ps := ps) (j := j) (p := p) k v p' (by simpa using h) hk he
  unfold prC at this ⊢
  rw [List.flatMap_cons, List.set_append_right _ _ (by simp [Prt.cells]; omega), show (j + 1) * 6 + k - x.cells.length = j * 6 + k from by simp [Prt.cells]; omega, this, List.set_cons_succ, List.flatMap_cons]
theorem PlD.own_set (d : PlD) (base : Nat) (ex : List Own) {j k : Nat} {p p' : Prt} {v : Value} (hj : d.ps[j]? = some p) (hk : k < 6) (he : p.cells.set k v = p'.cells) : (d.own base ++ ex).set 4 (oRow base 185 6 d.vp d.ps.length ((prC d.ps).set (j * 6 + k) v)) = { d with ps := d.ps.set j p' }.own base ++ ex := by
 rw [prC_set k v p' hj hk he]
 simp only [PlD.own, List.length_set]
 rfl
theorem PlS.setPart {w0 w : World} {F : Nat → Prop} {ex : List Own} {d : PlD} (h : PlS w0 F ex d w) {j k g c : Nat} {p p' : Prt} {v : Value} (hj : d.ps[j]? = some p) (hk : k < 6) (he : p.cells.set k v = p'.cells) (hv : d.vp = .slice (some ⟨g, 0, none⟩) d.ps.length c) (hr : RowAt w F 1 (.slice p'.oo p'.ofs.length p'.oc) p'.ofs.length (inC p'.ofs)) : PlS w0 F ex { d with ps := d.ps.set j p' } (w.setCell ⟨g, j * 6 + k, none⟩ v) ∧ Stays F F w (w.setCell ⟨g, j * 6 + k, none⟩ v) := by
 obtain ⟨h1, h2⟩ := h.sep.store (i := 4) rfl hv (j * 6 + k) v
 rw [PlD.own_set d _ ex hj hk he] at h1
 have hst := h.sep.stays (i := 4) rfl h2
 refine ⟨⟨h1, fun q hq => ?_, h.sep.below (i := 4) rfl h2 h.below⟩, hst⟩
 rcases List.mem_or_eq_of_mem_set hq with hq | rfl
 ·exact (h.ofs q hq).keep hst
 ·exact hr.keep hst
def rsQ (fp : List UInt8 → Option Int) (s : ByteArray) (q : Pq) : Pq := if q.op.data.toList = lName then { q with ofs := [((fp s.data.toList).getD 0).toNat] } else q
def nsAt (ns : List ByteArray) (k : Nat) : ByteArray := ns[k]?.getD ⟨#[]⟩
def RsTo (fp : List UInt8 → Option Int) (ns : List ByteArray) (ps : List Pq) (j : Nat) (qs : List Pq) : Prop := ∀ k, qs[k]? = ps[k]?.map fun q => if k < j then rsQ fp (nsAt ns k) q else q
theorem RsTo.zero (fp : List UInt8 → Option Int) (ns : List ByteArray) (ps : List Pq) : RsTo fp ns ps 0 ps := fun k => by
 cases ps[k]? <;> simp
theorem RsTo.length {fp : List UInt8 → Option Int} {ns : List ByteArray} {ps qs : List Pq} {j : Nat} (h : RsTo fp ns ps j qs) : qs.length = ps.length := by
 have h1 : ∀ k, qs[k]? = none ↔ ps[k]? = none := fun k => by rw [h k]; cases ps[k]? <;> simp
 have a := (h1 qs.length).1 (by simp)
 have b := (h1 ps.length).2 (by simp)
 rw [List.getElem?_eq_none_iff] at a b
 omega
theorem RsTo.step {fp : List UInt8 → Option Int} {ns : List ByteArray} {ps qs : List Pq} {j : Nat} {q : Pq} (h : RsTo fp ns ps j qs) (hq : qs[j]? = some q) : RsTo fp ns ps (j + 1) (qs.set j (rsQ fp (nsAt ns j) q)) := fun k => by
 have hk := h k
 by_cases e : j = k
 ·subst e
  rw [List.getElem?_set_self (List.getElem?_eq_some_iff.1 hq).1]
  rw [hq] at hk
  cases hp : ps[j]? with
  | none => rw [hp] at hk; cases hk
  | some p =>
   rw [hp] at hk
   simp only [Option.map_some, if_neg (Nat.lt_irrefl j)] at hk
   obtain rfl : q = p := Option.some.inj hk
   simp
 ·rw [List.getElem?_set_ne e, hk]
  cases ps[k]? with
  | none => rfl
  | some p =>
   simp only [Option.map_some]
   by_cases h1 : k < j
   ·rw [if_pos h1, if_pos (by omega)]
   ·rw [if_neg h1, if_neg (by omega)]
theorem RsTo.same {fp : List UInt8 → Option Int} {ns : List ByteArray} {ps qs : List Pq} {j : Nat} {q : Pq} (h : RsTo fp ns ps j qs) (hq : qs[j]? = some q) (hn : q.op.data.toList ≠ lName) : RsTo fp ns ps (j + 1) qs := by
 have := h.step hq
 rw [show rsQ fp (nsAt ns j) q = q from if_neg hn] at this
 rwa [show qs.set j q = qs from by
  apply List.ext_getElem?
  intro k
  by_cases e : j = k
  ·subst e; rw [List.getElem?_set_self (List.getElem?_eq_some_iff.1 hq).1, hq]
  ·rw [List.getElem?_set_ne e]] at this
def rsP (fp : List UInt8 → Option Int) (ns : List ByteArray) (ps : List Pq) : List Pq := ps.mapIdx fun k q => rsQ fp (nsAt ns k) q
theorem RsTo.all {fp : List UInt8 → Option Int} {ns : List ByteArray} {ps qs : List Pq} {j : Nat} (h : RsTo fp ns ps j qs) (hj : ps.length ≤ j) : qs = rsP fp ns ps := by
 apply List.ext_getElem?
 intro k
 rw [h k, rsP, List.getElem?_mapIdx]
 cases hp : ps[k]? with
 | none => rfl
 | some p => simp only [Option.map_some, if_pos (Nat.lt_of_lt_of_le (List.getElem?_eq_some_iff.1 hp).1 hj)]
theorem nmC_at {ns : List ByteArray} {k : Nat} {s : ByteArray} (h : ns[k]? = some s) : (nmC ns)[k]? = some (.string s) := by unfold nmC; rw [List.getElem?_map, h]; rfl
theorem PlS.nameAt {w0 w : World} {F : Nat → Prop} {ex : List Own} {d : PlD} (h : PlS w0 F ex d w) {k : Nat} {s : ByteArray} (hk : d.ns[k]? = some s) : ∃ g c, d.vn = .slice (some ⟨g, 0, none⟩) d.ns.length c ∧ w.cell? ⟨g, k, none⟩ = some (.string s) := by
 have hl := (List.getElem?_eq_some_iff.1 hk).1
 obtain ⟨g, c, e, _⟩ := h.names.form (by omega)
 have hp := h.names
 rw [e] at hp
 have := hp.cells (g := g) rfl k _ (nmC_at hk)
 rw [Addr.add_lit, Nat.zero_add] at this
 exact ⟨g, c, e, this⟩
theorem PlS.outR {w0 w : World} {F : Nat → Prop} {ex : List Own} {d : PlD} (h : PlS w0 F ex d w) : w.ownsRow w0.heap.size 3 1 d.vo d.os.length (inC d.os) := h.sep.is 9 _ rfl
theorem PlD.own_out (d : PlD) (base : Nat) (ex : List Own) (x : Nat) (v : Value) : ((d.own base ++ ex).set 9 (oRow base 3 1 v (d.os.length + 1) (inC d.os ++ [.int .i64 (x : Int)]))).set 1 (oBlk d.B (.cells (#[d.vp, d.vi, d.vt, d.vk, d.vo, d.va, d.vc].setIfInBounds 4 v) 183 (0, 0))) = { d with vo := v, os := d.os ++ [x] }.own base ++ ex := by
 simp only [PlD.own, List.length_append, List.length_singleton, inC_snoc]
 rfl
theorem PlS.output {w0 w w' : World} {F : Nat → Prop} {ex : List Own} {d : PlD} (h : PlS w0 F ex d w) {x g cap : Nat} (ho : w'.ownsRow w0.heap.size 3 1 (.slice (some ⟨g, 0, none⟩) (d.os.length + 1) cap) (d.os.length + 1) (inC d.os ++ [.int .i64 (x : Int)])) (hg : w.grownBy w' d.vo.ownBlock) (ha : d.vo.ownBlock = some g ∨ g = w.heap.size) : PlS w0 F ex { d with vo := .slice (some ⟨g, 0, none⟩) (d.os.length + 1) cap, os := d.os ++ [x] } (w'.setCell ⟨d.B, 4, none⟩ (.slice (some ⟨g, 0, none⟩) (d.os.length + 1) cap)) ∧ Stays F F w (w'.setCell ⟨d.B, 4, none⟩ (.slice (some ⟨g, 0, none⟩) (d.os.length + 1) cap)) ∧ w.heap.size ≤ (w'.setCell ⟨d.B, 4, none⟩ (.slice (some ⟨g, 0, none⟩) (d.os.length + 1) cap)).heap.size := by
 have h4 := h.sep.grow (i := 9) rfl ho hg ha
 have h5 := h4.set (i := 1) (b := d.B) rfl 4 (.slice (some ⟨g, 0, none⟩) (d.os.length + 1) cap)
 rw [PlD.own_out] at h5
 have hs1 := h.sep.stays (i := 9) rfl hg
 have hs2 := h4.stays (i := 1) (c := oBlk d.B d.bo) rfl (grown_set w' d.B 4 (.slice (some ⟨g, 0, none⟩) (d.os.length + 1) cap))
 exact ⟨⟨h5, (h.ofs.keep hs1).keep hs2, h4.below (i := 1) (c := oBlk d.B d.bo) rfl (grown_set w' d.B 4 _) (h.sep.below (i := 9) rfl hg h.below)⟩, hs1.trans hs2 hg.size, by rw [size_setCell]; exact hg.size⟩
theorem PlS.freeze {w0 w : World} {F : Nat → Prop} {ex : List Own} {d : PlD} (h : PlS w0 F ex d w) (a : Array Value) (t : TypeId) : PlS w0 (fun x => F x ∨ x = w.heap.size) ex d (w.alloc (.cells a t)) ∧ Stays F (fun x => F x ∨ x = w.heap.size) w (w.alloc (.cells a t)) := by
 have hb : Below w.heap.size w (w.alloc (.cells a t)) := (Below.refl w.heap.size w).alloc (Nat.le_refl _) (.cells a t)
 have hst : Stays F (fun x => F x ∨ x = w.heap.size) w (w.alloc (.cells a t)) := fun b hF hl => ⟨.inl hF, hb.block b hl⟩
 exact ⟨⟨h.sep.froze hb (Nat.le_refl _) (by simp), h.ofs.keep hst, h.below.trans (hb.mono h.below.size)⟩, hst⟩
def PlcOk (fp : List UInt8 → Option Int) : Prop := ∀ s, ∃ k : Nat, (fp s).getD 0 = (k : Int)
def plc (fp : List UInt8 → Option Int) (s : ByteArray) : Nat := ((fp s.data.toList).getD 0).toNat
theorem PlcOk.plc {fp : List UInt8 → Option Int} (h : PlcOk fp) (s : ByteArray) : (fp s.data.toList).getD 0 = (plc fp s : Int) := by
 obtain ⟨k, hk⟩ := h s.data.toList
 unfold Go.Proofs.YtiejfopholdbnaaGreatDoor.plc
 rw [hk]; rfl
structure RsV (w0 : World) (d : PlD) (outs : List ByteArray) (F : Nat → Prop) (d' : PlD) (w' : World) : Prop where
 pl : PlS w0 F [] d' w'
 ps : d'.ps.map Prt.q = rsP d.fp d.ns (d.ps.map Prt.q)
 os : d'.os = d.os ++ outs.map (plc d.fp)
 eq : d' = { d with ps := d'.ps, vo := d'.vo, os := d'.os }
structure RsI (w0 : World) (d : PlD) (j : Nat) (F0 F : Nat → Prop) (d' : PlD) (w w' : World) : Prop where
 pl : PlS w0 F [] d' w'
 ps : RsTo d.fp d.ns (d.ps.map Prt.q) j (d'.ps.map Prt.q)
 eq : d' = { d with ps := d'.ps }
 st : Stays F0 F w w'
 sz : w.heap.size ≤ w'.heap.size
structure RsO (w0 : World) (d : PlD) (outs : List ByteArray) (j : Nat) (F0 F : Nat → Prop) (d' : PlD) (w w' : World) : Prop where
 pl : PlS w0 F [] d' w'
 ps : d'.ps.map Prt.q = rsP d.fp d.ns (d.ps.map Prt.q)
 os : d'.os = d.os ++ (outs.take j).map (plc d.fp)
 eq : d' = { d with ps := d'.ps, vo := d'.vo, os := d'.os }
 st : Stays F0 F w w'
 sz : w.heap.size ≤ w'.heap.size
theorem resolve_any (w0 w : World) (S F : Nat → Prop) (d : PlD) (outs : List ByteArray) (o2 : Option Addr) (c2 : Nat) (h : PlS w0 F [] d w) (hv : d.v2 = .slice o2 outs.length c2) (ho : RowAt w0 S 1 (.slice o2 outs.length c2) outs.length (nmC outs)) (hos : ∀ s ∈ outs, s.size ≤ maxLen) (hns : ∀ s ∈ d.ns, s.size ≤ maxLen) (hl : d.ns.length = d.ps.length) (hps : d.ps.length ≤ 50000) (hou : outs.length + d.os.length ≤ 100000) (hp : PlcOk d.fp) :
  Calls Tryz.prog 144 #[.pointer (some ⟨d.X, 0, none⟩)] w fun e w' => e = .returned (.tuple #[]) ∧ w.heap.size ≤ w'.heap.size ∧ ∃ F' d', RsV w0 d outs F' d' w' ∧ Stays F F' w w' := by
 obtain ⟨i0, hi0, hz0, hz1, hz2⟩ := info_parts Tryz.infoInt
 obtain ⟨X, hX⟩ : ∃ X, X = d.X := ⟨_, rfl⟩
 obtain ⟨B, hB⟩ : ∃ B, B = d.B := ⟨_, rfl⟩
 obtain ⟨KP, hKP⟩ : ∃ KP, KP = d.Kp := ⟨_, rfl⟩
 obtain ⟨n, hn⟩ : ∃ n, n = d.ps.length := ⟨_, rfl⟩
 have HXB : Hid (X = d.X ∧ B = d.B ∧ KP = d.Kp ∧ n = d.ps.length) := ⟨hX, hB, hKP, hn⟩
 have HH := hidP h
 have HOU : Hid (d.v2 = .slice o2 outs.length c2 ∧ RowAt w0 S 1 (.slice o2 outs.length c2) outs.length (nmC outs) ∧ (∀ s ∈ outs, s.size ≤ maxLen) ∧ outs.length + d.os.length ≤ 100000) := ⟨hv, ho, hos, hou⟩
 have HNS : Hid ((∀ s ∈ d.ns, s.size ≤ maxLen) ∧ d.ns.length = d.ps.length ∧ d.ps.length ≤ 50000 ∧ PlcOk d.fp) := ⟨hns, hl, hps, hp⟩
 have x5 : w.cell? ⟨X, 0 + 5, none⟩ = some (.pointer (some ⟨B, 0, none⟩)) := by rw [hX, hB]; exact h.xcell
 obtain ⟨o, c, hvp, _⟩ := owns_slice h.parts
 rw [← hn] at hvp
 have HVP := hidP hvp
 have b0 : w.cell? ⟨B, 0, none⟩ = some (.slice o n c) := by rw [hB, cell_of_row w _ _ _ _ (0, 0) h.bb, ← hvp]; rfl
 rw [← hX]
 clear hv ho hos hns hl hps hou hp h hX hB hKP hn hvp
 go_enter Tryz.func144, Tryz.ntmps144
 go_wp2
 clear x5 b0
 go_loopw [14] (fun t wr => ∃ (j : Nat) (Fj : Nat → Prop) (dj : PlD), j ≤ n ∧ t = .int .i64 j ∧ Hid (RsI w0 d j F Fj dj w wr)) (fun t _ => n - (intOf t).toNat)
 case atStart => exact ⟨0, F, d, Nat.zero_le _, rfl, HH.out, RsTo.zero _ _ _, rfl, Stays.refl _ _, Nat.le_refl _⟩
 case round =>
  obtain ⟨j, Fj, dj, hj, rfl, HR⟩ := hrel
  have HRE : Hid (dj.X = X ∧ dj.B = B ∧ dj.Kp = KP ∧ dj.fp = d.fp ∧ dj.ns = d.ns ∧ dj.vp = d.vp ∧ dj.ps.length = n ∧ dj.v2 = d.v2 ∧ dj.os = d.os) := by
   have e := HR.out.eq
   have hx := HXB.out
   have hl : dj.ps.length = n := by
    have h0 := RsTo.length HR.out.ps
    simp only [List.length_map] at h0
    rw [h0, hx.2.2.2]
   rw [e]
   exact ⟨hx.1.symm, hx.2.1.symm, hx.2.2.1.symm, rfl, rfl, rfl, by rw [← e]; exact hl, rfl, rfl⟩
  by_cases hjl : j < n
  ·have hjd : j < dj.ps.length := by rw [HRE.out.2.2.2.2.2.2.1]; exact hjl
   obtain ⟨q, hq⟩ : ∃ q, dj.ps[j]? = some q := ⟨_, List.getElem?_eq_getElem hjd⟩
   obtain ⟨g, c', evp, hc⟩ := HR.out.pl.cells hq
   rw [HRE.out.2.2.2.2.2.2.1] at evp
   obtain ⟨rfl, rfl⟩ : o = some ⟨g, 0, none⟩ ∧ c = c' := by
    have e1 := HRE.out.2.2.2.2.2.1
    rw [evp, HVP.out] at e1
    simpa using e1.symm
   have a0 : wr.cell? ⟨g, j * 6, none⟩ = some (.string q.op) := hc 0 (by omega)
   have a1 : wr.cell? ⟨g, j * 6 + 1, none⟩ = some (.int .i64 q.n) := hc 1 (by omega)
   have a2 : wr.cell? ⟨g, j * 6 + 2, none⟩ = some (.slice q.oo q.ofs.length q.oc) := hc 2 (by omega)
   have a3 : wr.cell? ⟨g, j * 6 + 3, none⟩ = some (.int .i64 q.mem) := hc 3 (by omega)
   have a4 : wr.cell? ⟨g, j * 6 + 4, none⟩ = some (.int .i64 q.kind) := hc 4 (by omega)
   have a5 : wr.cell? ⟨g, j * 6 + 5, none⟩ = some (.bool q.late) := hc 5 (by omega)
   have i0' : (0 : Int) ≤ (j : Int) := by omega
   have i1' : (j : Int) < (n : Int) := by omega
   obtain ⟨s, hs⟩ : ∃ s, d.ns[j]? = some s := ⟨_, List.getElem?_eq_getElem (by rw [HNS.out.2.1, ← HXB.out.2.2.2]; exact hjl)⟩
   obtain ⟨w1, hw1⟩ : ∃ w1, w1 = wr.alloc (.cells #[.string q.op, .int .i64 q.n, .slice q.oo q.ofs.length q.oc, .int .i64 q.mem, .int .i64 q.kind, .bool q.late] 185) := ⟨_, rfl⟩
   obtain ⟨V, hV⟩ : ∃ V, V = wr.heap.size := ⟨_, rfl⟩
   have hb1 : Below wr.heap.size wr w1 := by rw [hw1]; exact bal
   have hr1 : w1.heap[V]? = some (.cells #[.string q.op, .int .i64 q.n, .slice q.oo q.ofs.length q.oc, .int .i64 q.mem, .int .i64 q.kind, .bool q.late] 185 (0, 0)) := by rw [hw1, hV]; exact heap_alloc_new _ _
   have z0 : w1.cell? ⟨V, 0, none⟩ = some (.string q.op) := cr hr1 rfl
   have HP1 : Hid (PlS w0 Fj [] dj w1) := HR.out.pl.keep hb1
   have HJ : Hid (j < n ∧ dj.ps[j]? = some q ∧ d.ns[j]? = some s ∧ dj.vp = .slice (some ⟨g, 0, none⟩) n c ∧ s.size ≤ maxLen) := ⟨hjl, hq, hs, evp, HNS.out.1 _ (List.mem_of_getElem? hs)⟩
   have HST : Hid (Stays F Fj w w1 ∧ w.heap.size ≤ w1.heap.size) := ⟨HR.out.st.trans (stays_below hb1) HR.out.sz, Nat.le_trans HR.out.sz hb1.size⟩
   have HRP : Hid (RsTo d.fp d.ns (d.ps.map Prt.q) j (dj.ps.map Prt.q) ∧ dj = { d with ps := dj.ps }) := ⟨HR.out.ps, HR.out.eq⟩
   have N4 : Hid (wrap64 ((j : Int) + 1) = (j : Int) + 1) := by have := HNS.out.2.2.1; have := HJ.out.1; have := HXB.out.2.2.2; unfold Hid wrap64; omega
   have HW1 : Hid (wr.alloc (.cells #[.string q.op, .int .i64 q.n, .slice q.oo q.ofs.length q.oc, .int .i64 q.mem, .int .i64 q.kind, .bool q.late] 185) = w1 ∧ wr.heap.size = V) := ⟨hw1.symm, hV.symm⟩
   clear hjd hq evp hc hs hw1 hV hb1 hr1 hj hjl HR
   go_upto_region 3 with fail
   rw [HW1.out.1, HW1.out.2]
   clear a0 a1 a2 a3 a4 a5
   by_cases hnm : q.op.data.toList = lName
   ·have dn : (q.op.toList == [110, 97, 109, 101]) = true := by rw [ByteArray.toList_eq, hnm]; rfl
    have HNM := hidP hnm
    clear hnm
    go_upto_region 4 with fail
    clear z0 dn
    have hPd := HP1.out.keep (Below.refl _ _).drew
    obtain ⟨gn, cn, evn, zn⟩ := hPd.nameAt (k := j) (s := s) (by rw [HRE.out.2.2.2.2.1]; exact HJ.out.2.2.1)
    rw [HRE.out.2.2.2.2.1, HNS.out.2.1, ← HXB.out.2.2.2] at evn
    obtain ⟨k, hk⟩ : ∃ k, k = plc d.fp s := ⟨_, rfl⟩
    have HSX : Hid (∀ (F' : Nat → Prop) (dd : PlD) (W : World), PlS w0 F' [] dd W → (∃ ps, dd = { dj with ps := ps }) → (fun w' => w'.cell? ⟨X, 0 + 5, none⟩ = some (.pointer (some ⟨B, 0, none⟩)) ∧ w'.cell? ⟨X, 0 + 6, none⟩ = some (.map (some KP)) ∧ w'.cell? ⟨X, 0 + 8, none⟩ = some (.slice (some ⟨gn, 0, none⟩) n cn) ∧ w'.cell? ⟨B, 0, none⟩ = some (.slice (some ⟨g, 0, none⟩) n c) ∧ w'.cell? ⟨gn, j, none⟩ = some (.string s) ∧ (Instr.lookup 96 (.map (some KP)) (.string s) false).run Tryz.prog w' = .ok (.int .i64 (k : Int)) w') W) := fun F' dd W hW he => by
     obtain ⟨ps, rfl⟩ := he
     have q5 := hW.xcell
     have q6 := hW.xcell6
     obtain ⟨gn', cn', evn', zn'⟩ := hW.nameAt (k := j) (s := s) (by show dj.ns[j]? = _; rw [HRE.out.2.2.2.2.1]; exact HJ.out.2.2.1)
     have q8 : W.cell? ⟨dj.X, 0 + 8, none⟩ = some dj.vn := cr hW.xb rfl
     have qb : W.cell? ⟨dj.B, 0, none⟩ = some dj.vp := cr hW.bb rfl
     have hfn : FnAt W dj.Kp dj.nKp (kindF dj.fp) := hW.placeR
     have e2 : gn = gn' := by
      have e3 : dj.vn = _ := evn'
      rw [evn] at e3
      simpa using (Value.slice.inj e3).1
     have e1 : (kindF d.fp s.data.toList).getD (.int .i64 0) = .int .i64 (k : Int) := (zero_getD _).trans (by rw [HNS.out.2.2.2.plc s, hk])
     have q5' : W.cell? ⟨dj.X, 0 + 5, none⟩ = some (.pointer (some ⟨dj.B, 0, none⟩)) := q5
     have q6' : W.cell? ⟨dj.X, 0 + 6, none⟩ = some (.map (some dj.Kp)) := q6
     rw [HRE.out.1, HRE.out.2.1] at q5'
     rw [HRE.out.1, HRE.out.2.2.1] at q6'
     rw [HRE.out.1, evn] at q8
     rw [HRE.out.2.1, HJ.out.2.2.2.1] at qb
     rw [HRE.out.2.2.1, HRE.out.2.2.2.1] at hfn
     rw [← e2] at zn'
     refine ⟨q5', q6', q8, qb, zn', ?_⟩
     rw [← e1]
     exact hfn.look1 Tryz.underlying96 (zero_int W) s HJ.out.2.2.2.2
    obtain ⟨w5, hw5⟩ : ∃ w5, w5 = (w1.alloc (.cells #[.int .i64 (k : Int)] 3)).drew := ⟨_, rfl⟩
    obtain ⟨Q, hQ⟩ : ∃ Q, Q = w1.heap.size := ⟨_, rfl⟩
    have hfz : PlS w0 (fun x => Fj x ∨ x = Q) [] dj w5 ∧ Stays Fj (fun x => Fj x ∨ x = Q) w1 w5 := by
     have h0 := HP1.out.freeze #[.int .i64 (k : Int)] 3
     rw [hw5, hQ]
     exact ⟨h0.1.keep (Below.refl _ _).drew, h0.2⟩
    have hb5 : Below w1.heap.size w1 w5 := by rw [hw5]; exact (bal).drew
    have hr5 : w5.heap[Q]? = some (.cells #[.int .i64 (k : Int)] 3 (0, 0)) := by rw [hw5, hQ]; exact heap_alloc_new w1 _
    obtain ⟨q', hq'⟩ : ∃ q' : Prt, q' = { q with ofs := [k], oo := some ⟨Q, 0, none⟩, oc := 1 } := ⟨_, rfl⟩
    have hrow : RowAt w5 (fun x => Fj x ∨ x = Q) 1 (.slice q'.oo q'.ofs.length q'.oc) q'.ofs.length (inC q'.ofs) := by
     rw [hq']
     exact RowAt.blockP hr5 (.inr rfl) rfl rfl (by unfold maxLen; simp) (Nat.le_refl _)
    have hset := hfz.1.setPart (j := j) (k := 2) (g := g) (c := c) (p' := q') (v := .slice (some ⟨Q, 0, none⟩) 1 1) HJ.out.2.1 (by omega) (by rw [hq']; rfl) (by rw [HJ.out.2.2.2.1, HRE.out.2.2.2.2.2.2.1]) hrow
    obtain ⟨w6, hw6⟩ : ∃ w6, w6 = w5.setCell ⟨g, j * 6 + 2, none⟩ (.slice (some ⟨Q, 0, none⟩) 1 1) := ⟨_, rfl⟩
    obtain ⟨d6, hd6⟩ : ∃ d6 : PlD, d6 = { dj with ps := dj.ps.set j q' } := ⟨_, rfl⟩
    rw [← hw6, ← hd6] at hset
    have HNX : Hid (RsI w0 d (j + 1) F (fun x => Fj x ∨ x = Q) d6 w w6) := by
     refine ⟨hset.1, ?_, ?_, ?_, ?_⟩
     ·have hst := HRP.out.1.step (q := q.q) (by rw [List.getElem?_map, HJ.out.2.1]; rfl)
      have e2 : rsQ d.fp (nsAt d.ns j) q.q = q'.q := by
       have e3 : nsAt d.ns j = s := by unfold nsAt; rw [HJ.out.2.2.1]; rfl
       rw [e3]
       unfold rsQ
       rw [if_pos (show q.q.op.data.toList = lName from HNM.out), hq']
       show _ = (⟨q.op, q.n, [k], q.mem, q.kind, q.late⟩ : Pq)
       rw [hk]; rfl
      rw [e2] at hst
      rw [hd6]
      show RsTo _ _ _ _ ((dj.ps.set j q').map Prt.q)
      rw [List.map_set]
      exact hst
     ·rw [hd6, HRP.out.2]
     ·have hs0 : Stays F Fj w w1 := HST.out.1
      exact (hs0.trans hfz.2 HST.out.2).trans hset.2 (Nat.le_trans HST.out.2 hb5.size)
     ·rw [hw6, size_setCell]; exact Nat.le_trans HST.out.2 hb5.size
    have gc : w5.cell? ⟨g, j * 6 + 2, none⟩ = some (.slice q.oo q.ofs.length q.oc) := by
     obtain ⟨g', c'', e', hc'⟩ := hfz.1.cells HJ.out.2.1
     rw [HJ.out.2.2.2.1] at e'
     obtain rfl : g = g' := by simpa using (Value.slice.inj e').1
     exact hc' 2 (by omega)
    have gf : w5.frozen? ⟨g, j * 6 + 2, none⟩ = false := by
     have hpr := hfz.1.parts
     rw [HJ.out.2.2.2.1, HRE.out.2.2.2.2.2.2.1] at hpr
     exact hpr.frozenAt _
    have HS5 : Hid ((fun w' => w'.cell? ⟨X, 0 + 5, none⟩ = some (.pointer (some ⟨B, 0, none⟩)) ∧ w'.cell? ⟨X, 0 + 6, none⟩ = some (.map (some KP)) ∧ w'.cell? ⟨X, 0 + 8, none⟩ = some (.slice (some ⟨gn, 0, none⟩) n cn) ∧ w'.cell? ⟨B, 0, none⟩ = some (.slice (some ⟨g, 0, none⟩) n c) ∧ w'.cell? ⟨gn, j, none⟩ = some (.string s) ∧ (Instr.lookup 96 (.map (some KP)) (.string s) false).run Tryz.prog w' = .ok (.int .i64 (k : Int)) w') w5) := HSX.out _ dj w5 hfz.1 ⟨_, rfl⟩
    have HS6 : Hid ((fun w' => w'.cell? ⟨X, 0 + 5, none⟩ = some (.pointer (some ⟨B, 0, none⟩)) ∧ w'.cell? ⟨X, 0 + 6, none⟩ = some (.map (some KP)) ∧ w'.cell? ⟨X, 0 + 8, none⟩ = some (.slice (some ⟨gn, 0, none⟩) n cn) ∧ w'.cell? ⟨B, 0, none⟩ = some (.slice (some ⟨g, 0, none⟩) n c) ∧ w'.cell? ⟨gn, j, none⟩ = some (.string s) ∧ (Instr.lookup 96 (.map (some KP)) (.string s) false).run Tryz.prog w' = .ok (.int .i64 (k : Int)) w') w6) := HSX.out _ d6 w6 hset.1 ⟨_, hd6⟩
    have HB5 : Hid (Below w1.heap.size w1 w5 ∧ (w1.alloc (.cells #[.int .i64 (k : Int)] 3)).drew = w5 ∧ w1.heap.size = Q ∧ w5.setCell ⟨g, j * 6 + 2, none⟩ (.slice (some ⟨Q, 0, none⟩) 1 1) = w6) := ⟨hb5, hw5.symm, hQ.symm, hw6.symm⟩
    have hS0 := HSX.out _ dj w1.drew hPd ⟨_, rfl⟩
    have i0' : (0 : Int) ≤ (j : Int) := by omega
    have i1' : (j : Int) < (n : Int) := by have := HJ.out.1; omega
    clear hPd evn zn hk hw5 hQ hfz hb5 hr5 hq' hrow hset hw6 hd6
    refine wp_region_till 23 (fun w' => w'.cell? ⟨X, 0 + 5, none⟩ = some (.pointer (some ⟨B, 0, none⟩)) ∧ w'.cell? ⟨X, 0 + 6, none⟩ = some (.map (some KP)) ∧ w'.cell? ⟨X, 0 + 8, none⟩ = some (.slice (some ⟨gn, 0, none⟩) n cn) ∧ w'.cell? ⟨B, 0, none⟩ = some (.slice (some ⟨g, 0, none⟩) n c) ∧ w'.cell? ⟨gn, j, none⟩ = some (.string s) ∧ (Instr.lookup 96 (.map (some KP)) (.string s) false).run Tryz.prog w' = .ok (.int .i64 (k : Int)) w') (fun _ => True) (by kernel_rfl) hS0 trivial (fun hHeld => ?_)
    refine tk 0 22 (.pointer (some ⟨X, 0, none⟩)) rfl (.inl ⟨by rfl, by rintro w ⟨b5, b6, b8, b0, bn, bl⟩; go_simp⟩) hHeld ?_
    try simp only [tp]
    refine tk 1 23 (.pointer (some ⟨X, 0, none⟩)) rfl (.inl ⟨by rfl, by rintro w ⟨b5, b6, b8, b0, bn, bl⟩; go_simp⟩) hHeld ?_
    try simp only [tp]
    refine tk 2 24 (.pointer (some ⟨X, 5, none⟩)) rfl (.inl ⟨by rfl, by rintro w ⟨b5, b6, b8, b0, bn, bl⟩; go_simp⟩) hHeld ?_
    try simp only [tp]
    refine tk 3 25 (.pointer (some ⟨B, 0, none⟩)) rfl (.inl ⟨by rfl, by rintro w ⟨b5, b6, b8, b0, bn, bl⟩; go_simp⟩) hHeld ?_
    try simp only [tp]
    refine tk 4 26 (.pointer (some ⟨B, 0, none⟩)) rfl (.inl ⟨by rfl, by rintro w ⟨b5, b6, b8, b0, bn, bl⟩; go_simp⟩) hHeld ?_
    try simp only [tp]
    refine tk 5 27 (.pointer (some ⟨B, 0, none⟩)) rfl (.inl ⟨by rfl, by rintro w ⟨b5, b6, b8, b0, bn, bl⟩; go_simp⟩) hHeld ?_
    try simp only [tp]
    refine tk 6 28 (.slice (some ⟨g, 0, none⟩) n c) rfl (.inl ⟨by rfl, by rintro w ⟨b5, b6, b8, b0, bn, bl⟩; go_simp⟩) hHeld ?_
    try simp only [tp]
    refine tk 7 29 (.int .i64 (j : Nat)) rfl (.inl ⟨by rfl, by rintro w ⟨b5, b6, b8, b0, bn, bl⟩; go_simp⟩) hHeld ?_
    try simp only [tp]
    refine tk 8 30 (.pointer (some ⟨X, 0, none⟩)) rfl (.inl ⟨by rfl, by rintro w ⟨b5, b6, b8, b0, bn, bl⟩; go_simp⟩) hHeld ?_
    try simp only [tp]
    refine tk 9 31 (.pointer (some ⟨X, 0, none⟩)) rfl (.inl ⟨by rfl, by rintro w ⟨b5, b6, b8, b0, bn, bl⟩; go_simp⟩) hHeld ?_
    try simp only [tp]
    refine tk 10 32 (.pointer (some ⟨X, 6, none⟩)) rfl (.inl ⟨by rfl, by rintro w ⟨b5, b6, b8, b0, bn, bl⟩; go_simp⟩) hHeld ?_
    try simp only [tp]
    refine tk 11 33 (.map (some KP)) rfl (.inl ⟨by rfl, by rintro w ⟨b5, b6, b8, b0, bn, bl⟩; go_simp⟩) hHeld ?_
    try simp only [tp]
    refine tk 12 34 (.pointer (some ⟨X, 0, none⟩)) rfl (.inl ⟨by rfl, by rintro w ⟨b5, b6, b8, b0, bn, bl⟩; go_simp⟩) hHeld ?_
    try simp only [tp]
    refine tk 13 35 (.pointer (some ⟨X, 0, none⟩)) rfl (.inl ⟨by rfl, by rintro w ⟨b5, b6, b8, b0, bn, bl⟩; go_simp⟩) hHeld ?_
    try simp only [tp]
    refine tk 14 36 (.pointer (some ⟨X, 8, none⟩)) rfl (.inl ⟨by rfl, by rintro w ⟨b5, b6, b8, b0, bn, bl⟩; go_simp⟩) hHeld ?_
    try simp only [tp]
    refine tk 15 37 (.slice (some ⟨gn, 0, none⟩) n cn) rfl (.inl ⟨by rfl, by rintro w ⟨b5, b6, b8, b0, bn, bl⟩; go_simp⟩) hHeld ?_
    try simp only [tp]
    refine tk 16 38 (.int .i64 (j : Nat)) rfl (.inl ⟨by rfl, by rintro w ⟨b5, b6, b8, b0, bn, bl⟩; go_simp⟩) hHeld ?_
    try simp only [tp]
    refine tk 17 39 (.pointer (some ⟨gn, j, none⟩)) rfl (.inl ⟨by rfl, by rintro w ⟨b5, b6, b8, b0, bn, bl⟩; go_simp⟩) hHeld ?_
    try simp only [tp]
    refine tk 18 40 (.string s) rfl (.inl ⟨by rfl, by rintro w ⟨b5, b6, b8, b0, bn, bl⟩; go_simp⟩) hHeld ?_
    try simp only [tp]
    refine tk 19 41 (.int .i64 (k : Int)) rfl (.inl ⟨by rfl, by rintro w ⟨b5, b6, b8, b0, bn, bl⟩; go_simp⟩) hHeld ?_
    try simp only [tp]
    refine wpTill_ready (rs := [20]) (by kernel_rfl) (by simp) ?_
    refine AllTill.cons (o := ⟨some 42, _, _, _, _, _⟩) rfl (fun K hK => ?_) AllTill.nil
    go_simp
    rw [HB5.out.2.1, HB5.out.2.2.1]
    refine hK.out _ _ ⟨HS5.out, fun _ => trivial⟩ (fun hHeld => ?_)
    clear hK K hS0
    try simp only [tp]
    refine tk 21 43 (.pointer (some ⟨g, j * 6, none⟩)) rfl (.inl ⟨by rfl, ?_⟩) hHeld ?_
    ·intro w hSw; (try dsimp only at hSw); go_simp
    try simp only [tp]
    refine tk 22 44 (.pointer (some ⟨g, j * 6 + 2, none⟩)) rfl (.inl ⟨by rfl, ?_⟩) hHeld ?_
    ·intro w hSw; (try dsimp only at hSw); go_simp
    try simp only [tp]
    refine wpTill_ready (rs := [23]) (by kernel_rfl) (by simp) ?_
    refine AllTill.cons (o := ⟨none, _, _, _, _, _⟩) rfl (fun K hK => ?_) AllTill.nil
    go_simp
    rw [HB5.out.2.2.2]
    refine hK.out _ _ (Till.last HS6.out) (fun hHeld => ?_)
    clear hK K
    try simp only [tp]
    refine wpTill_done (by kernel_rfl) ?_ _
    clear gc gf hHeld HS5 HS6 HB5 HSX
    go_wp2
    exact ⟨⟨j + 1, (fun x => Fj x ∨ x = Q), d6, HJ.out.1, by rw [N4.out]; rfl, HNX.out⟩, by rw [N4.out]; have := HJ.out.1; simp [intOf]; omega⟩
   ·have dn : (q.op.toList == [110, 97, 109, 101]) = false := by rw [ByteArray.toList_eq]; exact beq_eq_false_iff_ne.2 hnm
    have HNX : Hid (RsI w0 d (j + 1) F Fj dj w w1) := ⟨HP1.out, HRP.out.1.same (q := q.q) (by rw [List.getElem?_map, HJ.out.2.1]; rfl) hnm, HRP.out.2, HST.out.1, HST.out.2⟩
    clear hnm
    go_wp2
    exact ⟨⟨j + 1, Fj, dj, HJ.out.1, by rw [N4.out]; rfl, HNX.out⟩, by rw [N4.out]; have := HJ.out.1; simp [intOf]; omega⟩
  ·obtain rfl : n = j := by omega
   have HO0 : Hid (RsO w0 d outs 0 F Fj dj w wr) := by
    have e := HR.out.eq
    refine ⟨HR.out.pl, HR.out.ps.all (by rw [List.length_map, ← HXB.out.2.2.2]; exact Nat.le_refl _), by rw [HRE.out.2.2.2.2.2.2.2.2]; simp, ?_, HR.out.st, HR.out.sz⟩
    rw [e]
   have hx2 : wr.cell? ⟨X, 0 + 1, none⟩ = some (.slice o2 outs.length c2) := by rw [← HRE.out.1, cell_of_row wr _ _ _ _ (0, 0) HR.out.pl.xb, ← HOU.out.1, ← HRE.out.2.2.2.2.2.2.2.1]; rfl
   clear hj hjl HR HRE
   go_wp2
   clear hx2
   go_loopw [52] (fun t wr => ∃ (j : Nat) (Fj : Nat → Prop) (dj : PlD), j ≤ outs.length ∧ t = .int .i64 j ∧ Hid (RsO w0 d outs j F Fj dj w wr)) (fun t _ => outs.length - (intOf t).toNat)
   case atStart => exact ⟨0, Fj, dj, Nat.zero_le _, rfl, HO0.out⟩
   case round =>
    obtain ⟨j, Fj, dj, hj, rfl, HR⟩ := hrel
    have HRE : Hid (dj.X = X ∧ dj.B = B ∧ dj.Kp = KP ∧ dj.fp = d.fp) := by
     rw [HR.out.eq]
     exact ⟨HXB.out.1.symm, HXB.out.2.1.symm, HXB.out.2.2.1.symm, rfl⟩
    by_cases hjl : j < outs.length
    ·obtain ⟨s, hs⟩ : ∃ s, outs[j]? = some s := ⟨_, List.getElem?_eq_getElem hjl⟩
     obtain ⟨b, off, cp, ev, _, _, gg⟩ := HOU.out.2.1.at (by rw [HOU.out.2.1.1]; omega)
     obtain ⟨rfl, rfl⟩ : o2 = some ⟨b, off, none⟩ ∧ c2 = cp := by simpa using ev
     have y0 := cell_keep HR.out.pl.below (gg _ _ (nmC_at hs))
     have i0' : (0 : Int) ≤ (j : Int) := by omega
     have i1' : (j : Int) < (outs.length : Int) := by omega
     have hsn : s.size ≤ maxLen := HOU.out.2.2.1 _ (List.mem_of_getElem? hs)
     obtain ⟨k, hk⟩ : ∃ k, k = plc d.fp s := ⟨_, rfl⟩
     have HSX : Hid (∀ (F' : Nat → Prop) (dd : PlD) (W : World), PlS w0 F' [] dd W → dd.X = X ∧ dd.B = B ∧ dd.Kp = KP ∧ dd.fp = d.fp → (fun w' => w'.cell? ⟨X, 0 + 5, none⟩ = some (.pointer (some ⟨B, 0, none⟩)) ∧ w'.cell? ⟨X, 0 + 6, none⟩ = some (.map (some KP)) ∧ (Instr.lookup 96 (.map (some KP)) (.string s) false).run Tryz.prog w' = .ok (.int .i64 (k : Int)) w') W) := fun F' dd W hW he => by
      have q5 := hW.xcell
      have q6 := hW.xcell6
      have hfn := hW.placeR
      have e1 : (kindF d.fp s.data.toList).getD (.int .i64 0) = .int .i64 (k : Int) := (zero_getD _).trans (by rw [HNS.out.2.2.2.plc s, hk])
      rw [he.1, he.2.1] at q5
      rw [he.1, he.2.2.1] at q6
      rw [he.2.2.1, he.2.2.2] at hfn
      refine ⟨q5, q6, ?_⟩
      rw [← e1]
      exact hfn.look1 Tryz.underlying96 (zero_int W) s hsn
     have HJ : Hid (j < outs.length ∧ outs[j]? = some s ∧ k = plc d.fp s) := ⟨hjl, hs, hk⟩
     have N4 : Hid (wrap64 ((j : Int) + 1) = (j : Int) + 1) := by have := HOU.out.2.2.2; have := HJ.out.1; unfold Hid wrap64; omega
     have HOL : Hid (dj.os.length = d.os.length + j ∧ dj.os.length + 1 ≤ maxLen ∧ (dj.os.length + 1) * 8 ≤ 140737488355328) := by
      have e : dj.os.length = d.os.length + j := by rw [HR.out.os, List.length_append, List.length_map, List.length_take]; omega
      have := HOU.out.2.2.2
      have := HJ.out.1
      unfold Hid maxLen
      omega
     have hPd := HR.out.pl.keep (Below.refl _ _).drew
     have hS0 := HSX.out _ dj wr.drew hPd HRE.out
     have zb : wr.drew.cell? ⟨B, 0 + 4, none⟩ = some dj.vo := by rw [← HRE.out.2.1, cell_of_row wr.drew _ _ _ _ (0, 0) hPd.bb]; rfl
     have HRR : Hid (RsO w0 d outs j F Fj dj w wr) := HR.out
     clear ev gg hs hsn hk hPd hj hjl HR
     go_upto_region 9 with fail
     clear y0
     refine wp_region_till 21 (fun w' => w'.cell? ⟨X, 0 + 5, none⟩ = some (.pointer (some ⟨B, 0, none⟩)) ∧ w'.cell? ⟨X, 0 + 6, none⟩ = some (.map (some KP)) ∧ (Instr.lookup 96 (.map (some KP)) (.string s) false).run Tryz.prog w' = .ok (.int .i64 (k : Int)) w') (fun w' => w'.cell? ⟨B, 0 + 4, none⟩ = some dj.vo) (by kernel_rfl) hS0 zb (fun hHeld => ?_)
     refine tk 0 56 (.pointer (some ⟨X, 0, none⟩)) rfl (.inl ⟨by rfl, by rintro w ⟨b5, b6, bl⟩; go_simp⟩) hHeld ?_
     try simp only [tp]
     refine tk 1 57 (.pointer (some ⟨X, 0, none⟩)) rfl (.inl ⟨by rfl, by rintro w ⟨b5, b6, bl⟩; go_simp⟩) hHeld ?_
     try simp only [tp]
     refine tk 2 58 (.pointer (some ⟨X, 5, none⟩)) rfl (.inl ⟨by rfl, by rintro w ⟨b5, b6, bl⟩; go_simp⟩) hHeld ?_
     try simp only [tp]
     refine tk 3 59 (.pointer (some ⟨B, 0, none⟩)) rfl (.inl ⟨by rfl, by rintro w ⟨b5, b6, bl⟩; go_simp⟩) hHeld ?_
     try simp only [tp]
     refine tk 4 60 (.pointer (some ⟨X, 0, none⟩)) rfl (.inl ⟨by rfl, by rintro w ⟨b5, b6, bl⟩; go_simp⟩) hHeld ?_
     try simp only [tp]
     refine tk 5 61 (.pointer (some ⟨X, 0, none⟩)) rfl (.inl ⟨by rfl, by rintro w ⟨b5, b6, bl⟩; go_simp⟩) hHeld ?_
     try simp only [tp]
     refine tk 6 62 (.pointer (some ⟨X, 5, none⟩)) rfl (.inl ⟨by rfl, by rintro w ⟨b5, b6, bl⟩; go_simp⟩) hHeld ?_
     try simp only [tp]
     refine tk 7 63 (.pointer (some ⟨B, 0, none⟩)) rfl (.inl ⟨by rfl, by rintro w ⟨b5, b6, bl⟩; go_simp⟩) hHeld ?_
     try simp only [tp]
     refine tk 8 64 (.pointer (some ⟨B, 0, none⟩)) rfl (.inl ⟨by rfl, by rintro w ⟨b5, b6, bl⟩; go_simp⟩) hHeld ?_
     try simp only [tp]
     refine tk 9 65 (.pointer (some ⟨B, 4, none⟩)) rfl (.inl ⟨by rfl, by rintro w ⟨b5, b6, bl⟩; go_simp⟩) hHeld ?_
     try simp only [tp]
     refine wpTill_load 18 (i := 10) (oi := ⟨some 66, _, _, _, _, _⟩) (v := dj.vo) rfl rfl (by kernel_rfl) (by kernel_rfl) (by kernel_rfl) (by kernel_rfl) (by kernel_rfl) (by kernel_rfl) (by kernel_rfl) (fun _ _ _ h => h) (Or.inl ⟨by rfl, ?_⟩) hHeld ?_
     ·intro w hSw; (try dsimp only at hSw); go_simp
     try simp only [tp]
     refine tk 11 67 (.pointer (some ⟨X, 0, none⟩)) rfl (.inl ⟨by rfl, by rintro w ⟨b5, b6, bl⟩; go_simp⟩) hHeld ?_
     try simp only [tp]
     refine tk 12 68 (.pointer (some ⟨X, 0, none⟩)) rfl (.inl ⟨by rfl, by rintro w ⟨b5, b6, bl⟩; go_simp⟩) hHeld ?_
     try simp only [tp]
     refine tk 13 69 (.pointer (some ⟨X, 6, none⟩)) rfl (.inl ⟨by rfl, by rintro w ⟨b5, b6, bl⟩; go_simp⟩) hHeld ?_
     try simp only [tp]
     refine tk 14 70 (.map (some KP)) rfl (.inl ⟨by rfl, by rintro w ⟨b5, b6, bl⟩; go_simp⟩) hHeld ?_
     try simp only [tp]
     refine tk 15 71 (.string s) rfl (.inl ⟨by rfl, by rintro w ⟨b5, b6, bl⟩; go_simp⟩) hHeld ?_
     try simp only [tp]
     refine tk 16 72 (.int .i64 (k : Int)) rfl (.inl ⟨by rfl, by rintro w ⟨b5, b6, bl⟩; go_simp⟩) hHeld ?_
     try simp only [tp]
     refine wpTill_ready (rs := [17]) (by kernel_rfl) (by simp) ?_
     refine AllTill.cons (o := ⟨some 73, _, _, _, _, _⟩) rfl (fun K hK => ?_) AllTill.nil
     go_simp
     obtain ⟨wA, hwA⟩ : ∃ wA, wA = (wr.alloc (.cells #[.int .i64 (k : Int)] 3)).drew := ⟨_, rfl⟩
     obtain ⟨Q, hQ⟩ : ∃ Q, Q = wr.heap.size := ⟨_, rfl⟩
     have hbA : Below wr.heap.size wr wA := by rw [hwA]; exact (bal).drew
     have HPA : Hid (PlS w0 Fj [] dj wA) := HRR.out.pl.keep hbA
     have HNA : Hid (∀ q y, [Value.int .i64 (k : Int)][q]? = some y → wA.cell? ((⟨Q, 0, none⟩ : Addr).add q) = some y) := by unfold Hid; rw [hwA, hQ]; exact World.news_of_block (heap_alloc_new wr _)
     have HSA : Hid ((fun w' => w'.cell? ⟨X, 0 + 5, none⟩ = some (.pointer (some ⟨B, 0, none⟩)) ∧ w'.cell? ⟨X, 0 + 6, none⟩ = some (.map (some KP)) ∧ (Instr.lookup 96 (.map (some KP)) (.string s) false).run Tryz.prog w' = .ok (.int .i64 (k : Int)) w') wA ∧ wA.cell? ⟨B, 0 + 4, none⟩ = some dj.vo) := ⟨HSX.out _ dj wA HPA.out HRE.out, cell_keep hbA zb⟩
     have HSTA : Hid (Stays F Fj w wA ∧ w.heap.size ≤ wA.heap.size) := ⟨HRR.out.st.trans (stays_below hbA) HRR.out.sz, Nat.le_trans HRR.out.sz hbA.size⟩
     rw [← hwA, ← hQ]
     refine hK.out _ _ ⟨HSA.out.1, fun _ => HSA.out.2⟩ (fun hHeld => ?_)
     clear hK K hwA hbA hQ
     try simp only [tp]
     refine wpTill_ready (rs := [18]) (by kernel_rfl) (by simp) ?_
     refine AllTill.cons (o := ⟨some 74, _, _, _, _, _⟩) rfl (fun K hK => ?_) AllTill.nil
     refine step_append_lies _ rfl (.tmp 66) (.tmp 73) 30 rfl w0.heap.size 3 i0 _ 1 8 Tryz.underlying30 hi0 hz0 hz1 hz2 rfl (by omega) dj.vo dj.os.length _ (by simp [Act.eval]) HPA.out.outR ⟨Q, 0, none⟩ 1 1 [.int .i64 (k : Int)] (by simp [Act.eval]) rfl HNA.out (by simp [Value.oneCell']) (by omega) HOL.out.2.1 HOL.out.2.2 HPA.out.sep.base _ rfl ?_
     intro g cap w7 hown7 hgrow hat hlt7
     have hkp0 := HPA.out.output (x := k) (g := g) (cap := cap) (w' := w7) hown7 hgrow hat
     have hvX : dj.vo.ownBlock ≠ some dj.X := HPA.out.ne (i := 0) (j := 9) (by decide) rfl rfl rfl
     have hvB : dj.vo.ownBlock ≠ some dj.B := HPA.out.ne (i := 1) (j := 9) (by decide) rfl rfl rfl
     have hvK : dj.vo.ownBlock ≠ some dj.Kp := HPA.out.ne (i := 2) (j := 9) (by decide) rfl rfl rfl
     have hx7 := heap_grown' hgrow hvX HPA.out.xb
     have hb7 := heap_grown' hgrow hvB HPA.out.bb
     have hk7 : w7.heap[KP]? = wA.heap[KP]? := by rw [← HRE.out.2.2.1]; exact hgrow.block _ HPA.out.placeR.lt (fun e => hvK e.symm)
     rw [HRE.out.1] at hx7
     rw [HRE.out.2.1] at hb7
     have HS7 : Hid ((fun w' => w'.cell? ⟨X, 0 + 5, none⟩ = some (.pointer (some ⟨B, 0, none⟩)) ∧ w'.cell? ⟨X, 0 + 6, none⟩ = some (.map (some KP)) ∧ (Instr.lookup 96 (.map (some KP)) (.string s) false).run Tryz.prog w' = .ok (.int .i64 (k : Int)) w') w7) := by
      refine ⟨by rw [cell_of_row w7 _ _ _ _ (0, 0) hx7, ← HRE.out.2.1]; rfl, by rw [cell_of_row w7 _ _ _ _ (0, 0) hx7, ← HRE.out.2.2.1]; rfl, ?_⟩
      have hfn := HPA.out.placeR
      rw [HRE.out.2.2.1, HRE.out.2.2.2] at hfn
      have e1 : (kindF d.fp s.data.toList).getD (.int .i64 0) = .int .i64 (k : Int) := (zero_getD _).trans (by rw [HNS.out.2.2.2.plc s, HJ.out.2.2])
      rw [← e1]
      exact (hfn.kept hk7).look1 Tryz.underlying96 (zero_int w7) s (HOU.out.2.2.1 _ (List.mem_of_getElem? HJ.out.2.1))
     have bc7 : w7.cell? ⟨B, 0 + 4, none⟩ = some dj.vo := cr hb7 rfl
     have fz7 : w7.frozen? ⟨B, 0 + 4, none⟩ = false := frozen_row hb7
     refine hK.out _ _ ⟨HS7.out, fun _ => bc7⟩ (fun hHeld => ?_)
     clear hK K
     try simp only [tp]
     refine tk 19 75 (.pointer (some ⟨B, 0, none⟩)) rfl (.inl ⟨by rfl, ?_⟩) hHeld ?_
     ·intro w hSw; (try dsimp only at hSw); go_simp
     try simp only [tp]
     refine tk 20 76 (.pointer (some ⟨B, 4, none⟩)) rfl (.inl ⟨by rfl, ?_⟩) hHeld ?_
     ·intro w hSw; (try dsimp only at hSw); go_simp
     try simp only [tp]
     refine wpTill_ready (rs := [21]) (by kernel_rfl) (by simp) ?_
     refine AllTill.cons (o := ⟨none, _, _, _, _, _⟩) rfl (fun K hK => ?_) AllTill.nil
     go_simp
     obtain ⟨w9, hw9⟩ : ∃ w9, w9 = w7.setCell ⟨B, 4, none⟩ (.slice (some ⟨g, 0, none⟩) (dj.os.length + 1) cap) := ⟨_, rfl⟩
     rw [← hw9]
     obtain ⟨d4, hd4⟩ : ∃ d4 : PlD, d4 = { dj with vo := .slice (some ⟨g, 0, none⟩) (dj.os.length + 1) cap, os := dj.os ++ [k] } := ⟨_, rfl⟩
     have hkp : PlS w0 Fj [] d4 w9 ∧ Stays Fj Fj wA w9 ∧ wA.heap.size ≤ w9.heap.size := by
      rw [hd4, hw9, ← HRE.out.2.1]
      exact hkp0
     have HNX : Hid (RsO w0 d outs (j + 1) F Fj d4 w w9) := by
      refine ⟨hkp.1, by rw [hd4]; exact HRR.out.ps, ?_, ?_, HSTA.out.1.trans hkp.2.1 HSTA.out.2, Nat.le_trans HSTA.out.2 hkp.2.2⟩
      ·rw [hd4]
       show dj.os ++ [k] = _
       rw [HRR.out.os, List.take_add_one, HJ.out.2.1, HJ.out.2.2]
       simp
      ·rw [hd4, HRR.out.eq]
     have HS9 : Hid ((fun w' => w'.cell? ⟨X, 0 + 5, none⟩ = some (.pointer (some ⟨B, 0, none⟩)) ∧ w'.cell? ⟨X, 0 + 6, none⟩ = some (.map (some KP)) ∧ (Instr.lookup 96 (.map (some KP)) (.string s) false).run Tryz.prog w' = .ok (.int .i64 (k : Int)) w') w9) := HSX.out _ d4 w9 hkp.1 (by rw [hd4]; exact HRE.out)
     refine hK.out _ _ (Till.last HS9.out) (fun hHeld => ?_)
     clear hK K
     try simp only [tp]
     refine wpTill_done (by kernel_rfl) ?_ _
     clear hkp hkp0 hvX hvB hvK hx7 hb7 hk7 bc7 fz7 hw9 hd4 hown7 hgrow hat hlt7 hHeld
     go_wp2
     exact ⟨⟨j + 1, Fj, d4, HJ.out.1, by rw [N4.out]; rfl, HNX.out⟩, by rw [N4.out]; have := HJ.out.1; simp [intOf]; omega⟩
    ·obtain rfl : outs.length = j := by omega
     have HE : Hid (RsV w0 d outs Fj dj wr ∧ w.heap.size ≤ wr.heap.size ∧ Stays F Fj w wr) := ⟨⟨HR.out.pl, HR.out.ps, by rw [HR.out.os, List.take_of_length_le (Nat.le_refl _)], HR.out.eq⟩, HR.out.sz, HR.out.st⟩
     clear hj hjl HR
     go_wp2
     go_end0
     exact ⟨rfl, HE.out.2.1, Fj, dj, HE.out.1, HE.out.2.2⟩
end Go.Proofs.YtiejfopholdbnaaGreatDoor
