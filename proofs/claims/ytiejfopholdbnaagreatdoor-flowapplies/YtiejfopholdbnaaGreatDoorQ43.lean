/-
  package plan: needs, order BY CONTRACT: each part gets its turn behind those that it needs at once.
-/
import Derived.Test.YtiejfopholdbnaaGreatDoorQ42
namespace Go.Proofs.YtiejfopholdbnaaGreatDoor
open Go.RowKit Go.Maps
set_option maxRecDepth 100000
set_option maxHeartbeats 4000000

def ndQ (q : Pq) : List Nat := if q.op.data.toList = lPre then [] else if q.op.data.toList = lFby then q.ofs.take 1 else q.ofs
theorem RowAt.take1 {w : World} {F : Nat → Prop} {o : Option Addr} {c : Nat} {l : List Nat} (h : RowAt w F 1 (.slice o l.length c) l.length (inC l)) (h0 : 0 < l.length) : RowAt w F 1 (.slice o 1 c) 1 (inC (l.take 1)) := by
 obtain ⟨_, h2, o', c', e, h3, h4⟩ := h
 obtain ⟨rfl, rfl⟩ : o = o' ∧ c = c' := by simpa using e
 refine ⟨by unfold inC; rw [List.length_map, cI_length, List.length_take]; omega, by unfold maxLen; omega, o, c, rfl, fun k x hx => ?_, by omega⟩
 refine h3 k x ?_
 have hk := (List.getElem?_eq_some_iff.1 hx).1
 unfold inC cI at hx hk ⊢
 simp only [List.length_map, List.length_take] at hk
 rw [← hx, List.getElem?_map, List.getElem?_map, List.getElem?_map, List.getElem?_map, List.getElem?_take, if_pos (by omega)]
theorem needs_any (w : World) (F : Nat → Prop) (p : Prt) (hr : RowAt w F 1 (.slice p.oo p.ofs.length p.oc) p.ofs.length (inC p.ofs)) (hf : p.op.data.toList = lFby → 0 < p.ofs.length) :
  Calls Tryz.prog 181 #[.agg #[.string p.op, .int .i64 p.n, .slice p.oo p.ofs.length p.oc, .int .i64 p.mem, .int .i64 p.kind, .bool p.late]] w fun e w' => Below w.heap.size w w' ∧ ∃ o c, e = .returned (.slice o (ndQ p.q).length c) ∧ RowAt w' F 1 (.slice o (ndQ p.q).length c) (ndQ p.q).length (inC (ndQ p.q)) := by
 obtain ⟨w1, hw1⟩ : ∃ w1, w1 = w.alloc (.cells #[.string p.op, .int .i64 p.n, .slice p.oo p.ofs.length p.oc, .int .i64 p.mem, .int .i64 p.kind, .bool p.late] 185) := ⟨_, rfl⟩
 obtain ⟨V, hV⟩ : ∃ V, V = w.heap.size := ⟨_, rfl⟩
 have hb1 : Below w.heap.size w w1 := by rw [hw1]; exact bal
 have hr1 : w1.heap[V]? = some (.cells #[.string p.op, .int .i64 p.n, .slice p.oo p.ofs.length p.oc, .int .i64 p.mem, .int .i64 p.kind, .bool p.late] 185 (0, 0)) := by rw [hw1, hV]; exact heap_alloc_new _ _
 have z0 : w1.cell? ⟨V, 0, none⟩ = some (.string p.op) := cr hr1 rfl
 have z2 : w1.cell? ⟨V, 0 + 2, none⟩ = some (.slice p.oo p.ofs.length p.oc) := cr hr1 rfl
 have HB := hidP hb1
 have HRW : Hid (RowAt w1 F 1 (.slice p.oo p.ofs.length p.oc) p.ofs.length (inC p.ofs)) := hr.keep (stays_below hb1)
 have HW1 : Hid (w.alloc (.cells #[.string p.op, .int .i64 p.n, .slice p.oo p.ofs.length p.oc, .int .i64 p.mem, .int .i64 p.kind, .bool p.late] 185) = w1 ∧ w.heap.size = V) := ⟨hw1.symm, hV.symm⟩
 obtain ⟨m, hm⟩ : ∃ m, m = p.ofs.length := ⟨_, rfl⟩
 have hcap : p.ofs.length ≤ p.oc := hr.cap
 clear hr hw1 hV hb1 hr1
 by_cases hp : p.op.data.toList = lPre
 ·have dp : (p.op.toList == [112, 114, 101]) = true := by rw [ByteArray.toList_eq, hp]; rfl
  have HE : Hid (ndQ p.q = []) := if_pos hp
  clear hp hf hm hcap
  go_enter Tryz.func181, Tryz.ntmps181
  go_upto_region 1 with fail
  rw [HW1.out.1, HW1.out.2]
  go_wp2
  go_ret
  rw [HE.out]
  exact ⟨HB.out, none, 0, rfl, rowNil _ _ _⟩
 have dp : (p.op.toList == [112, 114, 101]) = false := by rw [ByteArray.toList_eq]; exact beq_eq_false_iff_ne.2 hp
 by_cases hy : p.op.data.toList = lFby
 ·have df : (p.op.toList == [102, 98, 121]) = true := by rw [ByteArray.toList_eq, hy]; rfl
  have h0 := hf hy
  have HE : Hid (ndQ p.q = p.ofs.take 1) := by unfold Hid ndQ; rw [if_neg (show p.q.op.data.toList ≠ lPre from hp), if_pos (show p.q.op.data.toList = lFby from hy)]; rfl
  have HT : Hid (RowAt w1 F 1 (.slice p.oo 1 p.oc) 1 (inC (p.ofs.take 1)) ∧ (p.ofs.take 1).length = 1) := ⟨HRW.out.take1 h0, by rw [List.length_take]; omega⟩
  have l1' : (1 : Int) ≤ (p.oc : Int) := by omega
  have l2' : 1 ≤ p.oc := by omega
  clear hp hy hf hm h0 hcap
  go_enter Tryz.func181, Tryz.ntmps181
  go_upto_region 1 with fail
  rw [HW1.out.1, HW1.out.2]
  go_wp2
  go_ret
  rw [HE.out, HT.out.2]
  exact ⟨HB.out, _, _, rfl, HT.out.1⟩
 ·have df : (p.op.toList == [102, 98, 121]) = false := by rw [ByteArray.toList_eq]; exact beq_eq_false_iff_ne.2 hy
  have HE : Hid (ndQ p.q = p.ofs) := by unfold Hid ndQ; rw [if_neg (show p.q.op.data.toList ≠ lPre from hp), if_neg (show p.q.op.data.toList ≠ lFby from hy)]; rfl
  clear hp hy hf hm hcap
  go_enter Tryz.func181, Tryz.ntmps181
  go_upto_region 1 with fail
  rw [HW1.out.1, HW1.out.2]
  go_wp2
  go_ret
  rw [HE.out]
  exact ⟨HB.out, _, _, rfl, HRW.out⟩
def oBo (Q n : Nat) (g : Nat → Bool) : Own := oBlk Q (.cells ((List.range n).map fun k => Value.bool (g k)).toArray 4 (0, 0))
theorem PlS.bo {w0 w : World} {F : Nat → Prop} {ex : List Own} {d : PlD} {Q n : Nat} {g : Nat → Bool} (h : PlS w0 F (oBo Q n g :: ex) d w) : BoAt w Q n g := h.sep.is 10 _ rfl
theorem PlS.boset {w0 w : World} {F : Nat → Prop} {ex : List Own} {d : PlD} {Q n : Nat} {g : Nat → Bool} (h : PlS w0 F (oBo Q n g :: ex) d w) (k : Nat) (v : Bool) : PlS w0 F (oBo Q n (fun j => if j = k then v else g j) :: ex) d (w.setCell ⟨Q, k, none⟩ (.bool v)) ∧ Stays F F w (w.setCell ⟨Q, k, none⟩ (.bool v)) := by
 have hg := grown_set w Q k (.bool v)
 have hs := h.sep.step (i := 10) (c := oBo Q n g) (c' := oBo Q n (fun j => if j = k then v else g j)) rfl hg (h.bo.set k v) (fun q hq => .inl hq)
 have hst := h.sep.stays (i := 10) (c := oBo Q n g) rfl hg
 exact ⟨⟨hs, h.ofs.keep hst, h.sep.below (i := 10) (c := oBo Q n g) rfl hg h.below⟩, hst⟩
theorem PlS.turnR {w0 w : World} {F : Nat → Prop} {ex : List Own} {d : PlD} (h : PlS w0 F ex d w) : w.ownsRow w0.heap.size 3 1 d.vt d.ts.length (inC d.ts) := h.sep.is 7 _ rfl
theorem PlD.own_turn (d : PlD) (base : Nat) (ex : List Own) (x : Nat) (v : Value) : ((d.own base ++ ex).set 7 (oRow base 3 1 v (d.ts.length + 1) (inC d.ts ++ [.int .i64 (x : Int)]))).set 1 (oBlk d.B (.cells (#[d.vp, d.vi, d.vt, d.vk, d.vo, d.va, d.vc].setIfInBounds 2 v) 183 (0, 0))) = { d with vt := v, ts := d.ts ++ [x] }.own base ++ ex := by
 simp only [PlD.own, List.length_append, List.length_singleton, inC_snoc]
 rfl
theorem PlS.turn {w0 w w' : World} {F : Nat → Prop} {ex : List Own} {d : PlD} (h : PlS w0 F ex d w) {x g cap : Nat} (ho : w'.ownsRow w0.heap.size 3 1 (.slice (some ⟨g, 0, none⟩) (d.ts.length + 1) cap) (d.ts.length + 1) (inC d.ts ++ [.int .i64 (x : Int)])) (hg : w.grownBy w' d.vt.ownBlock) (ha : d.vt.ownBlock = some g ∨ g = w.heap.size) : PlS w0 F ex { d with vt := .slice (some ⟨g, 0, none⟩) (d.ts.length + 1) cap, ts := d.ts ++ [x] } (w'.setCell ⟨d.B, 2, none⟩ (.slice (some ⟨g, 0, none⟩) (d.ts.length + 1) cap)) ∧ Stays F F w (w'.setCell ⟨d.B, 2, none⟩ (.slice (some ⟨g, 0, none⟩) (d.ts.length + 1) cap)) ∧ w.heap.size ≤ (w'.setCell ⟨d.B, 2, none⟩ (.slice (some ⟨g, 0, none⟩) (d.ts.length + 1) cap)).heap.size := by
 have h4 := h.sep.grow (i := 7) rfl ho hg ha
 have h5 := h4.set (i := 1) (b := d.B) rfl 2 (.slice (some ⟨g, 0, none⟩) (d.ts.length + 1) cap)
 rw [PlD.own_turn] at h5
 have hs1 := h.sep.stays (i := 7) rfl hg
 have hs2 := h4.stays (i := 1) (c := oBlk d.B d.bo) rfl (grown_set w' d.B 2 (.slice (some ⟨g, 0, none⟩) (d.ts.length + 1) cap))
 exact ⟨⟨h5, (h.ofs.keep hs1).keep hs2, h4.below (i := 1) (c := oBlk d.B d.bo) rfl (grown_set w' d.B 2 _) (h.sep.below (i := 7) rfl hg h.below)⟩, hs1.trans hs2 hg.size, by rw [size_setCell]; exact hg.size⟩
def inB (qs : List Pq) (x : Nat) : Bool := match qs[x]? with | some q => q.op.data.toList == bInput.data.toList | none => true
def ndP (qs : List Pq) (x : Nat) : List Nat := match qs[x]? with | some q => ndQ q | none => []
structure Rkd (qs : List Pq) (rk : Nat → Nat) : Prop where
 nd : ∀ x n, n ∈ ndP qs x → n < qs.length ∧ rk n < rk x
 fb : ∀ (x : Nat) (q : Pq), qs[x]? = some q → q.op.data.toList = lFby → 0 < q.ofs.length
structure Odm (qs : List Pq) (G : Nat → Prop) (g : Nat → Bool) (ts : List Nat) : Prop where
 nd : ts.Nodup
 t : ∀ x ∈ ts, x < qs.length ∧ inB qs x = false ∧ g x = true ∧ ¬ G x
 k : ∀ x, x < qs.length → g x = true → G x ∨ inB qs x = true ∨ x ∈ ts
 o : ∀ (a : List Nat) (x : Nat) (b : List Nat), ts = a ++ x :: b → ∀ n ∈ ndP qs x, inB qs n = true ∨ n ∈ a
theorem Odm.len {qs : List Pq} {G : Nat → Prop} {g : Nat → Bool} {ts : List Nat} (h : Odm qs G g ts) : ts.length ≤ qs.length := by
 have := nodup_len ts (List.range qs.length) h.nd (fun x hx => List.mem_range.2 (h.t x hx).1)
 simpa using this
theorem Odm.enter {qs : List Pq} {G : Nat → Prop} {g : Nat → Bool} {ts : List Nat} (h : Odm qs G g ts) {i : Nat} (hi : g i = false) : Odm qs (fun x => G x ∨ x = i) (fun x => if x = i then true else g x) ts := by
 refine ⟨h.nd, fun x hx => ?_, fun x hl hx => ?_, h.o⟩
 ·obtain ⟨a, b, c, e⟩ := h.t x hx
  have hne : x ≠ i := fun e2 => by rw [e2, hi] at c; cases c
  exact ⟨a, b, by rw [if_neg hne]; exact c, fun h2 => h2.elim e hne⟩
 ·by_cases e : x = i
  ·exact .inl (.inr e)
  ·rw [if_neg e] at hx
   rcases h.k x hl hx with h1 | h1 | h1
   ·exact .inl (.inl h1)
   ·exact .inr (.inl h1)
   ·exact .inr (.inr h1)
theorem Odm.leave {qs : List Pq} {G : Nat → Prop} {g : Nat → Bool} {ts : List Nat} {i : Nat} (h : Odm qs (fun x => G x ∨ x = i) g ts) (hin : inB qs i = true) : Odm qs G g ts := by
 refine ⟨h.nd, fun x hx => ?_, fun x hl hx => ?_, h.o⟩
 ·obtain ⟨a, b, c, e⟩ := h.t x hx
  exact ⟨a, b, c, fun h2 => e (.inl h2)⟩
 ·rcases h.k x hl hx with (h1 | rfl) | h1 | h1
  ·exact .inl h1
  ·exact .inr (.inl hin)
  ·exact .inr (.inl h1)
  ·exact .inr (.inr h1)
theorem snoc_cases {α : Type} {ts a b : List α} {x i : α} (h : ts ++ [i] = a ++ x :: b) : (∃ b', ts = a ++ x :: b') ∨ (ts = a ∧ x = i) := by
 rcases List.eq_nil_or_concat b with rfl | ⟨b', y, rfl⟩
 ·right
  obtain ⟨h1, h2⟩ := List.append_inj' h rfl
  exact ⟨h1, by simpa using h2.symm⟩
 ·left
  have e : a ++ x :: (b'.concat y) = (a ++ x :: b') ++ [y] := by simp [List.concat_eq_append]
  rw [e] at h
  exact ⟨b', (List.append_inj' h rfl).1⟩
theorem Odm.push {qs : List Pq} {rk : Nat → Nat} (hr : Rkd qs rk) {G : Nat → Prop} {g : Nat → Bool} {ts : List Nat} {i : Nat} (h : Odm qs (fun x => G x ∨ x = i) g ts) (hi : i < qs.length) (hG : ∀ x, G x → rk i < rk x) (hgi : g i = true) (hin : inB qs i = false) (hn : ∀ n ∈ ndP qs i, g n = true) : Odm qs G g (ts ++ [i]) := by
 have hni : ¬ G i := fun hg => absurd (hG i hg) (Nat.lt_irrefl _)
 refine ⟨?_, fun x hx => ?_, fun x hl hx => ?_, fun a x b hab n hnx => ?_⟩
 ·rw [List.nodup_append]
  refine ⟨h.nd, by simp, fun x hx y hy => ?_⟩
  rw [List.mem_singleton.1 hy]
  exact fun e => (h.t x hx).2.2.2 (.inr e)
 ·rcases List.mem_append.1 hx with hx | hx
  ·obtain ⟨a, b, c, e⟩ := h.t x hx
   exact ⟨a, b, c, fun h2 => e (.inl h2)⟩
  ·rw [List.mem_singleton.1 hx]
   exact ⟨hi, hin, hgi, hni⟩
 ·rcases h.k x hl hx with (h1 | rfl) | h1 | h1
  ·exact .inl h1
  ·exact .inr (.inr (by simp))
  ·exact .inr (.inl h1)
  ·exact .inr (.inr (by simp [h1]))
 ·rcases snoc_cases hab with ⟨b', e⟩ | ⟨rfl, rfl⟩
  ·exact h.o a x b' e n hnx
  ·obtain ⟨hnl, hrk⟩ := hr.nd x n hnx
   rcases h.k n hnl (hn n hnx) with (h1 | h1) | h1 | h1
   ·have := hG n h1; omega
   ·rw [h1] at hrk; omega
   ·exact .inl h1
   ·exact .inr h1
def exO (Q KB XB NB X n : Nat) (g : Nat → Bool) : List Own := [oBo Q n g, oBlk KB (.cells #[.slice (some ⟨Q, 0, none⟩) n n] 103 (0, 0)), oBlk XB (.cells #[.pointer (some ⟨X, 0, none⟩)] 237 (0, 0)), oBlk NB (.cells #[.func (.func 180) #[] #[.pointer (some ⟨KB, 0, none⟩), .pointer (some ⟨XB, 0, none⟩), .pointer (some ⟨NB, 0, none⟩)]] 276 (0, 0))]
def NdC (m : Nat) : Prop := ∀ (rk : Nat → Nat) (i : Nat), rk i < m → ∀ (w0 w : World) (F : Nat → Prop) (d : PlD) (Q KB XB NB X n : Nat) (G : Nat → Prop) (g : Nat → Bool), X = d.X → n = d.ps.length → PlS w0 F (exO Q KB XB NB X n g) d w → Rkd (d.ps.map Prt.q) rk → Odm (d.ps.map Prt.q) G g d.ts → d.ps.length ≤ 50000 → i < d.ps.length → (∀ x, G x → rk i < rk x) →
  Calls Tryz.prog 180 #[.int .i64 (i : Int), .pointer (some ⟨KB, 0, none⟩), .pointer (some ⟨XB, 0, none⟩), .pointer (some ⟨NB, 0, none⟩)] w fun e w' => e = .returned (.tuple #[]) ∧ ∃ vt ts g', PlS w0 F (exO Q KB XB NB X n g') { d with vt := vt, ts := ts } w' ∧ Odm (d.ps.map Prt.q) G g' ts ∧ (∀ x, g x = true → g' x = true) ∧ g' i = true ∧ w.heap.size ≤ w'.heap.size ∧ Stays F F w w'
theorem PlS.exo {w0 w : World} {F : Nat → Prop} {d : PlD} {Q KB XB NB X n : Nat} {g : Nat → Bool} (h : PlS w0 F (exO Q KB XB NB X n g) d w) : w.cell? ⟨KB, 0, none⟩ = some (.slice (some ⟨Q, 0, none⟩) n n) ∧ w.cell? ⟨XB, 0, none⟩ = some (.pointer (some ⟨X, 0, none⟩)) ∧ w.cell? ⟨NB, 0, none⟩ = some (.func (.func 180) #[] #[.pointer (some ⟨KB, 0, none⟩), .pointer (some ⟨XB, 0, none⟩), .pointer (some ⟨NB, 0, none⟩)]) := by
 refine ⟨?_, ?_, ?_⟩
 ·rw [cell_of_row w _ _ _ _ (0, 0) (h.sep.is 11 _ rfl)]; rfl
 ·rw [cell_of_row w _ _ _ _ (0, 0) (h.sep.is 12 _ rfl)]; rfl
 ·rw [cell_of_row w _ _ _ _ (0, 0) (h.sep.is 13 _ rfl)]; rfl
theorem need_of {m : Nat} (IH : NdC m) : NdC (m + 1) := by
 intro rk i him w0 w F d Q KB XB NB X n G g hX hn h hrk hod hps hi hG
 obtain ⟨i0, hi0, hz0, hz1, hz2⟩ := info_parts Tryz.infoInt
 obtain ⟨B, hB⟩ : ∃ B, B = d.B := ⟨_, rfl⟩
 have HXB : Hid (X = d.X ∧ B = d.B ∧ n = d.ps.length) := ⟨hX, hB, hn⟩
 obtain ⟨k0, k1, k2⟩ := h.exo
 have kb := h.bo.cell (k := i) (by rw [hn]; exact hi)
 have i0' : (0 : Int) ≤ (i : Int) := by omega
 have i1' : (i : Int) < (n : Int) := by omega
 have HH := hidP h
 have HRK : Hid (Rkd (d.ps.map Prt.q) rk ∧ Odm (d.ps.map Prt.q) G g d.ts ∧ d.ps.length ≤ 50000 ∧ i < d.ps.length ∧ (∀ x, G x → rk i < rk x)) := ⟨hrk, hod, hps, hi, hG⟩
 have HIH : Hid (NdC m ∧ rk i < m + 1) := ⟨IH, him⟩
 clear IH him hrk hod hps hi hG hX hB hn
 cases hgi : g i with
 | true =>
  rw [hgi] at kb
  have HGI := hidP hgi
  clear hgi h
  go_enter Tryz.func180, Tryz.ntmps180
  go_wp2
  refine bodyPost_ret (results_none rfl _ _ _) rfl ?_
  exact ⟨rfl, d.vt, d.ts, g, HH.out, HRK.out.2.1, fun _ h => h, HGI.out, Nat.le_refl _, Stays.refl _ _⟩
 | false =>
  rw [hgi] at kb
  have kf : w.frozen? ⟨Q, i, none⟩ = false := h.bo.free i
  obtain ⟨p, hp⟩ : ∃ p, d.ps[i]? = some p := ⟨_, List.getElem?_eq_getElem HRK.out.2.2.2.1⟩
  obtain ⟨w1, hw1⟩ : ∃ w1, w1 = w.setCell ⟨Q, i, none⟩ (.bool true) := ⟨_, rfl⟩
  have hset := h.boset i true
  rw [← hw1] at hset
  have HS1 : Hid (PlS w0 F (exO Q KB XB NB X n (fun x => if x = i then true else g x)) d w1 ∧ Stays F F w w1 ∧ w.heap.size ≤ w1.heap.size) := ⟨hset.1, hset.2, by rw [hw1, size_setCell]; exact Nat.le_refl _⟩
  have HGI := hidP hgi
  have HO1 : Hid (Odm (d.ps.map Prt.q) (fun x => G x ∨ x = i) (fun x => if x = i then true else g x) d.ts) := HRK.out.2.1.enter hgi
  have HW1 : Hid (w.setCell ⟨Q, i, none⟩ (.bool true) = w1) := hw1.symm
  obtain ⟨gp, cp, evp, hc⟩ := hset.1.cells hp
  rw [← HXB.out.2.2] at evp
  obtain ⟨j0, j1, j2⟩ := hset.1.exo
  have y5 : w1.cell? ⟨X, 0 + 5, none⟩ = some (.pointer (some ⟨B, 0, none⟩)) := by rw [HXB.out.1, HXB.out.2.1]; exact hset.1.xcell
  have y6 : w1.cell? ⟨B, 0, none⟩ = some (.slice (some ⟨gp, 0, none⟩) n cp) := by rw [HXB.out.2.1, cell_of_row w1 _ _ _ _ (0, 0) hset.1.bb, ← evp]; rfl
  have a0 : w1.cell? ⟨gp, i * 6, none⟩ = some (.string p.op) := hc 0 (by omega)
  have a1 : w1.cell? ⟨gp, i * 6 + 1, none⟩ = some (.int .i64 p.n) := hc 1 (by omega)
  have a2 : w1.cell? ⟨gp, i * 6 + 2, none⟩ = some (.slice p.oo p.ofs.length p.oc) := hc 2 (by omega)
  have a3 : w1.cell? ⟨gp, i * 6 + 3, none⟩ = some (.int .i64 p.mem) := hc 3 (by omega)
  have a4 : w1.cell? ⟨gp, i * 6 + 4, none⟩ = some (.int .i64 p.kind) := hc 4 (by omega)
  have a5 : w1.cell? ⟨gp, i * 6 + 5, none⟩ = some (.bool p.late) := hc 5 (by omega)
  have hpq : (d.ps.map Prt.q)[i]? = some p.q := by rw [List.getElem?_map, hp]; rfl
  have HP : Hid (d.ps[i]? = some p ∧ ndP (d.ps.map Prt.q) i = ndQ p.q ∧ inB (d.ps.map Prt.q) i = (p.op.data.toList == bInput.data.toList) ∧ d.vp = .slice (some ⟨gp, 0, none⟩) n cp) := by
   refine ⟨hp, ?_, ?_, evp⟩
   ·unfold ndP; rw [hpq]
   ·unfold inB; rw [hpq]; rfl
  have HND : Hid (Calls Tryz.prog 181 #[.agg #[.string p.op, .int .i64 p.n, .slice p.oo p.ofs.length p.oc, .int .i64 p.mem, .int .i64 p.kind, .bool p.late]] w1 fun e w' => Below w1.heap.size w1 w' ∧ ∃ o c, e = .returned (.slice o (ndQ p.q).length c) ∧ RowAt w' F 1 (.slice o (ndQ p.q).length c) (ndQ p.q).length (inC (ndQ p.q))) := needs_any w1 F p (hset.1.ofs p (List.mem_of_getElem? hp)) (HRK.out.1.fb i p.q hpq)
  clear hgi h hset hw1 hp evp hc hpq
  go_enter Tryz.func180, Tryz.ntmps180
  go_upto_region 2 with fail
  rw [HW1.out]
  clear k0 k1 k2 kb kf
  go_wp2_with fail
  refine HND.out.mono ?_
  rintro e w2 ⟨hb2, on, cn, rfl, hrow⟩
  have HS2 : Hid (PlS w0 F (exO Q KB XB NB X n (fun x => if x = i then true else g x)) d w2 ∧ Stays F F w w2 ∧ w.heap.size ≤ w2.heap.size) := ⟨HS1.out.1.keep hb2, HS1.out.2.1.trans (stays_below hb2) HS1.out.2.2, Nat.le_trans HS1.out.2.2 hb2.size⟩
  have HRW := hidP hrow
  clear hb2 hrow y5 y6 a0 a1 a2 a3 a4 a5 j0 j1 j2 HND
  obtain ⟨l, hl⟩ : ∃ l, l = ndQ p.q := ⟨_, rfl⟩
  rw [← hl] at HRW HP ⊢
  clear hl
  go_wp2
  go_loopw [26] (fun t wr => ∃ (j : Nat) (vt : Value) (ts : List Nat) (g' : Nat → Bool), j ≤ l.length ∧ t = .int .i64 j ∧ Hid (PlS w0 F (exO Q KB XB NB X n g') { d with vt := vt, ts := ts } wr ∧ Odm (d.ps.map Prt.q) (fun x => G x ∨ x = i) g' ts ∧ (∀ x, (if x = i then true else g x) = true → g' x = true) ∧ (∀ k x, k < j → l[k]? = some x → g' x = true) ∧ w2.heap.size ≤ wr.heap.size ∧ Stays F F w2 wr)) (fun t _ => l.length - (intOf t).toNat)
  case atStart => exact ⟨0, d.vt, d.ts, _, Nat.zero_le _, rfl, HS2.out.1, HO1.out, fun _ h => h, fun k x hk => by omega, Nat.le_refl _, Stays.refl _ _⟩
  case round =>
   obtain ⟨j, vt, ts, g', hj, rfl, HR⟩ := hrel
   by_cases hjl : j < l.length
   ·obtain ⟨x, hx⟩ : ∃ x, l[j]? = some x := ⟨_, List.getElem?_eq_getElem hjl⟩
    obtain ⟨b, off, cq, ev, _, _, gg⟩ := (HRW.out.keep HR.out.2.2.2.2.2).at (by rw [HRW.out.1]; omega)
    obtain ⟨rfl, rfl⟩ : on = some ⟨b, off, none⟩ ∧ cn = cq := by simpa using ev
    have y0 := gg j (.int .i64 (x : Int)) (by unfold inC; rw [List.getElem?_map, cI_at hx]; rfl)
    obtain ⟨_, _, j2⟩ := HR.out.1.exo
    have hx2 := HRK.out.1.nd i x (by rw [HP.out.2.1]; exact List.mem_of_getElem? hx)
    have hca := HIH.out.1 rk x (by have := HIH.out.2; omega) w0 wr F { d with vt := vt, ts := ts } Q KB XB NB X n (fun x => G x ∨ x = i) g' HXB.out.1 HXB.out.2.2 HR.out.1 HRK.out.1 HR.out.2.1 HRK.out.2.2.1 (by simpa using hx2.1) (fun y hy => by
     rcases hy with hy | rfl
     ·have := HRK.out.2.2.2.2 y hy; omega
     ·exact hx2.2)
    have HCA : Hid (Calls Tryz.prog 180 #[.int .i64 (x : Int), .pointer (some ⟨KB, 0, none⟩), .pointer (some ⟨XB, 0, none⟩), .pointer (some ⟨NB, 0, none⟩)] wr fun e w' => e = .returned (.tuple #[]) ∧ ∃ vt' ts' g'', PlS w0 F (exO Q KB XB NB X n g'') { d with vt := vt', ts := ts' } w' ∧ Odm (d.ps.map Prt.q) (fun x => G x ∨ x = i) g'' ts' ∧ (∀ x, g' x = true → g'' x = true) ∧ g'' x = true ∧ wr.heap.size ≤ w'.heap.size ∧ Stays F F wr w') := hca
    have i0' : (0 : Int) ≤ (j : Int) := by omega
    have i1' : (j : Int) < (l.length : Int) := by omega
    have HJ : Hid (j < l.length ∧ l[j]? = some x) := ⟨hjl, hx⟩
    have HRR := HR
    have N4 : Hid (wrap64 ((j : Int) + 1) = (j : Int) + 1) := by have := HJ.out.1; have hm := HRW.out.2.1; unfold maxLen at hm; unfold Hid wrap64; omega
    clear ev gg hx hx2 hca hj hjl HR
    go_wp2_with (go_at_call 180; refine HCA.out.mono ?_; rintro e w5 ⟨rfl, vt', ts', g'', hP5, hO5, hg5, hx5, hs5, hst5⟩)
    have HNX : Hid (PlS w0 F (exO Q KB XB NB X n g'') { d with vt := vt', ts := ts' } w5 ∧ Odm (d.ps.map Prt.q) (fun x => G x ∨ x = i) g'' ts' ∧ (∀ x, (if x = i then true else g x) = true → g'' x = true) ∧ (∀ k x, k < j + 1 → l[k]? = some x → g'' x = true) ∧ w2.heap.size ≤ w5.heap.size ∧ Stays F F w2 w5) := by
     obtain ⟨_, _, h3, h4, h5, h6⟩ := HRR.out
     refine ⟨hP5, hO5, fun x hx => hg5 _ (h3 x hx), fun k y hk hy => ?_, Nat.le_trans h5 hs5, h6.trans hst5 h5⟩
     by_cases e : k = j
     ·subst e
      rw [HJ.out.2] at hy
      rw [← Option.some.inj hy]
      exact hx5
     ·exact hg5 _ (h4 k y (by omega) hy)
    clear hP5 hO5 hg5 hx5 hs5 hst5 y0 j2 HCA
    exact ⟨⟨j + 1, vt', ts', g'', HJ.out.1, by rw [N4.out]; rfl, HNX.out⟩, by rw [N4.out]; have := HJ.out.1; simp [intOf]; omega⟩
   ·obtain rfl : l.length = j := by omega
    obtain ⟨hP6, hO6, hg6, hk6, hs6, hst6⟩ := HR.out
    have HP6 : Hid (PlS w0 F (exO Q KB XB NB X n g') { d with vt := vt, ts := ts } wr ∧ w.heap.size ≤ wr.heap.size ∧ Stays F F w wr) := ⟨hP6, Nat.le_trans HS2.out.2.2 hs6, HS2.out.2.1.trans hst6 HS2.out.2.2⟩
    have HO6 : Hid (Odm (d.ps.map Prt.q) (fun x => G x ∨ x = i) g' ts ∧ (∀ x, g x = true → g' x = true) ∧ g' i = true ∧ ∀ x ∈ ndP (d.ps.map Prt.q) i, g' x = true) := by
     refine ⟨hO6, fun x hx => hg6 x ?_, hg6 i (by rw [if_pos rfl]), fun x hx => ?_⟩
     ·split
      ·rfl
      ·exact hx
     ·rw [HP.out.2.1] at hx
      obtain ⟨k, hk⟩ := List.mem_iff_getElem?.1 hx
      exact hk6 k x (List.getElem?_eq_some_iff.1 hk).1 hk
    obtain ⟨_, xb, _⟩ := hP6.exo
    have y5 : wr.cell? ⟨X, 0 + 5, none⟩ = some (.pointer (some ⟨B, 0, none⟩)) := by rw [HXB.out.1, HXB.out.2.1]; exact hP6.xcell
    have y6 : wr.cell? ⟨B, 0, none⟩ = some (.slice (some ⟨gp, 0, none⟩) n cp) := by rw [HXB.out.2.1, ← HP.out.2.2.2, cell_of_row wr _ _ _ _ (0, 0) hP6.bb]; rfl
    obtain ⟨gp', cp', evp', hc⟩ := hP6.cells (i := i) (p := p) HP.out.1
    obtain rfl : gp = gp' := by
     have e1 : d.vp = _ := evp'
     rw [HP.out.2.2.2] at e1
     simpa using (Value.slice.inj e1).1
    have a0 : wr.cell? ⟨gp, i * 6, none⟩ = some (.string p.op) := hc 0 (by omega)
    have i1' : (i : Int) < (n : Int) := by have := HRK.out.2.2.2.1; have := HXB.out.2.2; omega
    clear hj hjl HR hP6 hO6 hg6 hk6 hs6 hst6 evp' hc
    by_cases hin : p.op.data.toList = bInput.data.toList
    ·have dn : (p.op.toList == [105, 110, 112, 117, 116]) = true := by rw [ByteArray.toList_eq, hin]; rfl
     have dn2 : (p.op.toList != [105, 110, 112, 117, 116]) = false := by rw [ByteArray.toList_eq, hin]; rfl
     have HIN : Hid (inB (d.ps.map Prt.q) i = true) := by unfold Hid; rw [HP.out.2.2.1, hin]; simp
     clear hin
     go_wp2
     go_end0
     exact ⟨rfl, vt, ts, g', HP6.out.1, HO6.out.1.leave HIN.out, HO6.out.2.1, HO6.out.2.2.1, HP6.out.2⟩
    ·have dn : (p.op.toList == [105, 110, 112, 117, 116]) = false := by rw [ByteArray.toList_eq]; exact beq_eq_false_iff_ne.2 hin
     have dn2 : (p.op.toList != [105, 110, 112, 117, 116]) = true := by rw [ByteArray.toList_eq]; exact bne_iff_ne.2 hin
     have HIN : Hid (inB (d.ps.map Prt.q) i = false) := by unfold Hid; rw [HP.out.2.2.1]; exact beq_eq_false_iff_ne.2 hin
     clear hin
     have HTL : Hid (ts.length + 1 ≤ maxLen ∧ (ts.length + 1) * 8 ≤ 140737488355328) := by
      have h1 := HO6.out.1.len
      rw [List.length_map] at h1
      have := HRK.out.2.2.1
      unfold Hid maxLen
      omega
     go_upto_region 8 with fail
     clear a0 y6 dn dn2
     have z1 : wr.drew.cell? ⟨XB, 0, none⟩ = some (.pointer (some ⟨X, 0, none⟩)) := xb
     have z5 : wr.drew.cell? ⟨X, 0 + 5, none⟩ = some (.pointer (some ⟨B, 0, none⟩)) := y5
     have zb : wr.drew.cell? ⟨B, 0 + 2, none⟩ = some vt := by rw [HXB.out.2.1, cell_of_row wr.drew _ _ _ _ (0, 0) (HP6.out.1.keep (Below.refl _ _).drew).bb]; rfl
     refine wp_region_till 16 (fun w' => w'.cell? ⟨XB, 0, none⟩ = some (.pointer (some ⟨X, 0, none⟩)) ∧ w'.cell? ⟨X, 0 + 5, none⟩ = some (.pointer (some ⟨B, 0, none⟩))) (fun w' => w'.cell? ⟨B, 0 + 2, none⟩ = some vt) (by kernel_rfl) ⟨z1, z5⟩ zb (fun hHeld => ?_)
     refine tk 0 46 (.pointer (some ⟨X, 0, none⟩)) rfl (.inl ⟨by rfl, by rintro w ⟨b1, b5⟩; go_simp⟩) hHeld ?_
     try simp only [tp]
     refine tk 1 47 (.pointer (some ⟨X, 0, none⟩)) rfl (.inl ⟨by rfl, by rintro w ⟨b1, b5⟩; go_simp⟩) hHeld ?_
     try simp only [tp]
     refine tk 2 48 (.pointer (some ⟨X, 5, none⟩)) rfl (.inl ⟨by rfl, by rintro w ⟨b1, b5⟩; go_simp⟩) hHeld ?_
     try simp only [tp]
     refine tk 3 49 (.pointer (some ⟨B, 0, none⟩)) rfl (.inl ⟨by rfl, by rintro w ⟨b1, b5⟩; go_simp⟩) hHeld ?_
     try simp only [tp]
     refine tk 4 50 (.pointer (some ⟨X, 0, none⟩)) rfl (.inl ⟨by rfl, by rintro w ⟨b1, b5⟩; go_simp⟩) hHeld ?_
     try simp only [tp]
     refine tk 5 51 (.pointer (some ⟨X, 0, none⟩)) rfl (.inl ⟨by rfl, by rintro w ⟨b1, b5⟩; go_simp⟩) hHeld ?_
     try simp only [tp]
     refine tk 6 52 (.pointer (some ⟨X, 5, none⟩)) rfl (.inl ⟨by rfl, by rintro w ⟨b1, b5⟩; go_simp⟩) hHeld ?_
     try simp only [tp]
     refine tk 7 53 (.pointer (some ⟨B, 0, none⟩)) rfl (.inl ⟨by rfl, by rintro w ⟨b1, b5⟩; go_simp⟩) hHeld ?_
     try simp only [tp]
     refine tk 8 54 (.pointer (some ⟨B, 0, none⟩)) rfl (.inl ⟨by rfl, by rintro w ⟨b1, b5⟩; go_simp⟩) hHeld ?_
     try simp only [tp]
     refine tk 9 55 (.pointer (some ⟨B, 2, none⟩)) rfl (.inl ⟨by rfl, by rintro w ⟨b1, b5⟩; go_simp⟩) hHeld ?_
     try simp only [tp]
     refine wpTill_load 13 (i := 10) (oi := ⟨some 56, _, _, _, _, _⟩) (v := vt) rfl rfl (by kernel_rfl) (by kernel_rfl) (by kernel_rfl) (by kernel_rfl) (by kernel_rfl) (by kernel_rfl) (by kernel_rfl) (fun _ _ _ h => h) (Or.inl ⟨by rfl, ?_⟩) hHeld ?_
     ·intro w hSw; (try dsimp only at hSw); go_simp
     try simp only [tp]
     refine tk 11 57 (.int .i64 (i : Nat)) rfl (.inl ⟨by rfl, by rintro w ⟨b1, b5⟩; go_simp⟩) hHeld ?_
     try simp only [tp]
     refine wpTill_ready (rs := [12]) (by kernel_rfl) (by simp) ?_
     refine AllTill.cons (o := ⟨some 58, _, _, _, _, _⟩) rfl (fun K hK => ?_) AllTill.nil
     go_simp
     obtain ⟨wA, hwA⟩ : ∃ wA, wA = (wr.alloc (.cells #[.int .i64 (i : Int)] 3)).drew := ⟨_, rfl⟩
     obtain ⟨P, hPP⟩ : ∃ P, P = wr.heap.size := ⟨_, rfl⟩
     have hbA : Below wr.heap.size wr wA := by rw [hwA]; exact (bal).drew
     have HPA : Hid (PlS w0 F (exO Q KB XB NB X n g') { d with vt := vt, ts := ts } wA) := HP6.out.1.keep hbA
     have HNA : Hid (∀ q y, [Value.int .i64 (i : Int)][q]? = some y → wA.cell? ((⟨P, 0, none⟩ : Addr).add q) = some y) := by unfold Hid; rw [hwA, hPP]; exact World.news_of_block (heap_alloc_new wr _)
     have HSA : Hid ((wA.cell? ⟨XB, 0, none⟩ = some (.pointer (some ⟨X, 0, none⟩)) ∧ wA.cell? ⟨X, 0 + 5, none⟩ = some (.pointer (some ⟨B, 0, none⟩))) ∧ wA.cell? ⟨B, 0 + 2, none⟩ = some vt) := ⟨⟨cell_keep hbA xb, cell_keep hbA y5⟩, cell_keep hbA zb⟩
     have HSTA : Hid (Stays F F w wA ∧ w.heap.size ≤ wA.heap.size) := ⟨HP6.out.2.2.trans (stays_below hbA) HP6.out.2.1, Nat.le_trans HP6.out.2.1 hbA.size⟩
     rw [← hwA, ← hPP]
     refine hK.out _ _ ⟨HSA.out.1, fun _ => HSA.out.2⟩ (fun hHeld => ?_)
     clear hK K hwA hbA hPP z1 z5 zb xb y5
     try simp only [tp]
     refine wpTill_ready (rs := [13]) (by kernel_rfl) (by simp) ?_
     refine AllTill.cons (o := ⟨some 59, _, _, _, _, _⟩) rfl (fun K hK => ?_) AllTill.nil
     refine step_append_lies _ rfl (.tmp 56) (.tmp 58) 30 rfl w0.heap.size 3 i0 _ 1 8 Tryz.underlying30 hi0 hz0 hz1 hz2 rfl (by omega) vt ts.length _ (by simp [Act.eval]) HPA.out.turnR ⟨P, 0, none⟩ 1 1 [.int .i64 (i : Int)] (by simp [Act.eval]) rfl HNA.out (by simp [Value.oneCell']) (by omega) HTL.out.1 HTL.out.2 HPA.out.sep.base _ rfl ?_
     intro gg cap w7 hown7 hgrow hat hlt7
     have hkp0 := HPA.out.turn (x := i) (g := gg) (cap := cap) (w' := w7) hown7 hgrow hat
     have hvX : vt.ownBlock ≠ some X := by rw [HXB.out.1]; exact HPA.out.ne (i := 0) (j := 7) (by decide) rfl rfl rfl
     have hvB : vt.ownBlock ≠ some B := by rw [HXB.out.2.1]; exact HPA.out.ne (i := 1) (j := 7) (by decide) rfl rfl rfl
     have hvD : vt.ownBlock ≠ some XB := HPA.out.ne (i := 12) (j := 7) (by decide) rfl rfl rfl
     have hx7 := heap_grown' hgrow hvX (by rw [HXB.out.1]; exact HPA.out.xb)
     have hb7 := heap_grown' hgrow hvB (by rw [HXB.out.2.1]; exact HPA.out.bb)
     have hd7 := heap_grown' hgrow hvD (HPA.out.sep.is 12 _ rfl)
     have HS7 : Hid (w7.cell? ⟨XB, 0, none⟩ = some (.pointer (some ⟨X, 0, none⟩)) ∧ w7.cell? ⟨X, 0 + 5, none⟩ = some (.pointer (some ⟨B, 0, none⟩))) := ⟨cr hd7 rfl, by rw [cell_of_row w7 _ _ _ _ (0, 0) hx7, HXB.out.2.1]; rfl⟩
     have bc7 : w7.cell? ⟨B, 0 + 2, none⟩ = some vt := cr hb7 rfl
     have fz7 : w7.frozen? ⟨B, 0 + 2, none⟩ = false := frozen_row hb7
     refine hK.out _ _ ⟨HS7.out, fun _ => bc7⟩ (fun hHeld => ?_)
     clear hK K
     try simp only [tp]
     refine tk 14 60 (.pointer (some ⟨B, 0, none⟩)) rfl (.inl ⟨by rfl, ?_⟩) hHeld ?_
     ·intro w hSw; (try dsimp only at hSw); go_simp
     try simp only [tp]
     refine tk 15 61 (.pointer (some ⟨B, 2, none⟩)) rfl (.inl ⟨by rfl, ?_⟩) hHeld ?_
     ·intro w hSw; (try dsimp only at hSw); go_simp
     try simp only [tp]
     refine wpTill_ready (rs := [16]) (by kernel_rfl) (by simp) ?_
     refine AllTill.cons (o := ⟨none, _, _, _, _, _⟩) rfl (fun K hK => ?_) AllTill.nil
     go_simp
     obtain ⟨w9, hw9⟩ : ∃ w9, w9 = w7.setCell ⟨B, 2, none⟩ (.slice (some ⟨gg, 0, none⟩) (ts.length + 1) cap) := ⟨_, rfl⟩
     rw [← hw9]
     have hkp : PlS w0 F (exO Q KB XB NB X n g') { d with vt := .slice (some ⟨gg, 0, none⟩) (ts.length + 1) cap, ts := ts ++ [i] } w9 ∧ Stays F F wA w9 ∧ wA.heap.size ≤ w9.heap.size := by
      rw [hw9, HXB.out.2.1]
      exact hkp0
     have HE : Hid (PlS w0 F (exO Q KB XB NB X n g') { d with vt := .slice (some ⟨gg, 0, none⟩) (ts.length + 1) cap, ts := ts ++ [i] } w9 ∧ Odm (d.ps.map Prt.q) G g' (ts ++ [i]) ∧ w.heap.size ≤ w9.heap.size ∧ Stays F F w w9) :=
      ⟨hkp.1, HO6.out.1.push HRK.out.1 (by rw [List.length_map]; exact HRK.out.2.2.2.1) HRK.out.2.2.2.2 HO6.out.2.2.1 HIN.out HO6.out.2.2.2, Nat.le_trans HSTA.out.2 hkp.2.2, HSTA.out.1.trans hkp.2.1 HSTA.out.2⟩
     have hs9 : w9.cell? ⟨XB, 0, none⟩ = some (.pointer (some ⟨X, 0, none⟩)) ∧ w9.cell? ⟨X, 0 + 5, none⟩ = some (.pointer (some ⟨B, 0, none⟩)) := ⟨hkp.1.exo.2.1, by rw [HXB.out.1, HXB.out.2.1]; exact hkp.1.xcell⟩
     refine hK.out _ _ (Till.last hs9) (fun hHeld => ?_)
     clear hK K
     try simp only [tp]
     refine wpTill_done (by kernel_rfl) ?_ _
     clear hkp hkp0 hvX hvB hvD hx7 hb7 hd7 bc7 fz7 hw9 hs9 hown7 hgrow hat hlt7 hHeld
     go_wp2
     go_end0
     exact ⟨rfl, _, _, g', HE.out.1, HE.out.2.1, HO6.out.2.1, HO6.out.2.2.1, HE.out.2.2⟩
theorem need_any : ∀ m : Nat, NdC m
 | 0 => fun _ _ h => absurd h (Nat.not_lt_zero _)
 | m + 1 => need_of (need_any m)
set_option maxRecDepth 100000
set_option maxHeartbeats 4000000

structure Trn (qs : List Pq) (ts : List Nat) : Prop where
 nd : ts.Nodup
 t : ∀ x ∈ ts, x < qs.length ∧ inB qs x = false
 all : ∀ x, x < qs.length → inB qs x = true ∨ x ∈ ts
 o : ∀ (a : List Nat) (x : Nat) (b : List Nat), ts = a ++ x :: b → ∀ n ∈ ndP qs x, inB qs n = true ∨ n ∈ a
theorem bo_made (n : Nat) : ((List.range n).map fun _ => Value.bool false).toArray = Array.replicate n (.bool false) := by
 apply Array.toList_inj.1
 apply List.ext_getElem?
 intro j
 simp only [Array.toList_replicate, List.getElem?_replicate, List.getElem?_map]
 by_cases hj : j < n
 ·simp [hj]
 ·simp [hj]
theorem PlS.exo_made {w0 w1 : World} {F : Nat → Prop} {d : PlD} {XB X n : Nat} (h : PlS w0 F [oBlk XB (.cells #[.pointer (some ⟨X, 0, none⟩)] 237 (0, 0))] d w1) (w3 : World) (hw : w3 = ((w1.alloc (.cells (Array.replicate n (.bool false)) 4)).alloc (.cells #[.slice (some ⟨w1.heap.size, 0, none⟩) n n] 103)).alloc (.cells #[.func (.func 180) #[] #[.pointer (some ⟨w1.heap.size + 1, 0, none⟩), .pointer (some ⟨XB, 0, none⟩), .pointer (some ⟨w1.heap.size + 1 + 1, 0, none⟩)]] 276)) : PlS w0 F (exO w1.heap.size (w1.heap.size + 1) XB (w1.heap.size + 1 + 1) X n fun _ => false) d w3 ∧ Stays F F w1 w3 ∧ w1.heap.size ≤ w3.heap.size := by
 obtain ⟨wa, hwa⟩ : ∃ wa, wa = w1.alloc (.cells (Array.replicate n (.bool false)) 4) := ⟨_, rfl⟩
 obtain ⟨wb, hwb⟩ : ∃ wb, wb = wa.alloc (.cells #[.slice (some ⟨w1.heap.size, 0, none⟩) n n] 103) := ⟨_, rfl⟩
 obtain ⟨wc, hwc⟩ : ∃ wc, wc = wb.alloc (.cells #[.func (.func 180) #[] #[.pointer (some ⟨w1.heap.size + 1, 0, none⟩), .pointer (some ⟨XB, 0, none⟩), .pointer (some ⟨w1.heap.size + 1 + 1, 0, none⟩)]] 276) := ⟨_, rfl⟩
 have ea : wa.heap.size = w1.heap.size + 1 := by rw [hwa]; simp
 have eb : wb.heap.size = w1.heap.size + 1 + 1 := by rw [hwb]; simp [ea]
 have s1 := Sep.alloc (l1 := d.own w0.heap.size) h.sep (Array.replicate n (.bool false)) 4
 rw [← hwa] at s1
 have s2 := Sep.alloc (l1 := d.own w0.heap.size ++ [oBlk w1.heap.size (.cells (Array.replicate n (.bool false)) 4 (0, 0))]) (l2 := [oBlk XB (.cells #[.pointer (some ⟨X, 0, none⟩)] 237 (0, 0))]) (by rw [List.append_assoc]; exact s1) #[.slice (some ⟨w1.heap.size, 0, none⟩) n n] 103
 rw [← hwb, ea] at s2
 have s3 := Sep.alloc (l1 := d.own w0.heap.size ++ [oBlk w1.heap.size (.cells (Array.replicate n (.bool false)) 4 (0, 0)), oBlk (w1.heap.size + 1) (.cells #[.slice (some ⟨w1.heap.size, 0, none⟩) n n] 103 (0, 0)), oBlk XB (.cells #[.pointer (some ⟨X, 0, none⟩)] 237 (0, 0))]) (l2 := []) (by rw [List.append_nil]; rw [List.append_assoc] at s2; exact s2) #[.func (.func 180) #[] #[.pointer (some ⟨w1.heap.size + 1, 0, none⟩), .pointer (some ⟨XB, 0, none⟩), .pointer (some ⟨w1.heap.size + 1 + 1, 0, none⟩)]] 276
 rw [← hwc, eb, List.append_assoc] at s3
 have hba : Below w1.heap.size w1 wa := by rw [hwa]; exact bal
 have hbb : Below wa.heap.size wa wb := by rw [hwb]; exact bal
 have hbc : Below wb.heap.size wb wc := by rw [hwc]; exact bal
 have hb : Below w1.heap.size w1 wc := hba.trans ((hbb.trans (hbc.mono hbb.size)).mono hba.size)
 rw [← hwa, ← hwb, ← hwc] at hw
 have hst : Stays F F w1 w3 := by rw [hw]; exact stays_below hb
 refine ⟨⟨?_, h.ofs.keep hst, ?_⟩, hst, by rw [hw]; exact hb.size⟩
 ·rw [hw]
  have e : exO w1.heap.size (w1.heap.size + 1) XB (w1.heap.size + 1 + 1) X n (fun _ => false) = [oBlk w1.heap.size (.cells (Array.replicate n (.bool false)) 4 (0, 0)), oBlk (w1.heap.size + 1) (.cells #[.slice (some ⟨w1.heap.size, 0, none⟩) n n] 103 (0, 0)), oBlk XB (.cells #[.pointer (some ⟨X, 0, none⟩)] 237 (0, 0)), oBlk (w1.heap.size + 1 + 1) (.cells #[.func (.func 180) #[] #[.pointer (some ⟨w1.heap.size + 1, 0, none⟩), .pointer (some ⟨XB, 0, none⟩), .pointer (some ⟨w1.heap.size + 1 + 1, 0, none⟩)]] 276 (0, 0))] := by unfold exO oBo; rw [bo_made]
  rw [e]
  exact s3
 ·rw [hw]
  exact h.below.trans (hb.mono h.below.size)
theorem porder_any (w0 w : World) (F : Nat → Prop) (d : PlD) (X : Nat) (hX : X = d.X) (h : PlS w0 F [] d w) (rk : Nat → Nat) (hrk : Rkd (d.ps.map Prt.q) rk) (hts : d.ts = []) (hps : d.ps.length ≤ 50000) :
  Calls Tryz.prog 145 #[.pointer (some ⟨X, 0, none⟩)] w fun e w' => e = .returned (.tuple #[]) ∧ w.heap.size ≤ w'.heap.size ∧ ∃ vt ts, PlS w0 F [] { d with vt := vt, ts := ts } w' ∧ Trn (d.ps.map Prt.q) ts ∧ Stays F F w w' := by
 obtain ⟨B, hB⟩ : ∃ B, B = d.B := ⟨_, rfl⟩
 obtain ⟨n, hn⟩ : ∃ n, n = d.ps.length := ⟨_, rfl⟩
 have HXB : Hid (X = d.X ∧ B = d.B ∧ n = d.ps.length) := ⟨hX, hB, hn⟩
 have HH := hidP h
 have HRK : Hid (Rkd (d.ps.map Prt.q) rk ∧ d.ts = [] ∧ d.ps.length ≤ 50000) := ⟨hrk, hts, hps⟩
 obtain ⟨o, c, hvp, _⟩ := owns_slice h.parts
 rw [← hn] at hvp
 have HVP := hidP hvp
 obtain ⟨w1, hw1⟩ : ∃ w1, w1 = w.alloc (.cells #[.pointer (some ⟨X, 0, none⟩)] 237) := ⟨_, rfl⟩
 obtain ⟨XB, hXBB⟩ : ∃ XB, XB = w.heap.size := ⟨_, rfl⟩
 have hb1 : Below w.heap.size w w1 := by rw [hw1]; exact bal
 have HP1 : Hid (PlS w0 F [oBlk XB (.cells #[.pointer (some ⟨X, 0, none⟩)] 237 (0, 0))] d w1 ∧ Stays F F w w1 ∧ w.heap.size ≤ w1.heap.size) := by rw [hw1, hXBB]; exact ⟨h.push _ _, stays_below (bal), by simp⟩
 have x1 : w1.cell? ⟨XB, 0, none⟩ = some (.pointer (some ⟨X, 0, none⟩)) := cr HP1.out.1.top rfl
 have x5 : w1.cell? ⟨X, 0 + 5, none⟩ = some (.pointer (some ⟨B, 0, none⟩)) := by rw [hX, hB]; exact HP1.out.1.xcell
 have b0 : w1.cell? ⟨B, 0, none⟩ = some (.slice o n c) := by rw [hB, cell_of_row _ _ _ _ _ (0, 0) HP1.out.1.bb, ← hvp]; rfl
 have HW1 : Hid (w.alloc (.cells #[.pointer (some ⟨X, 0, none⟩)] 237) = w1 ∧ w.heap.size = XB) := ⟨hw1.symm, hXBB.symm⟩
 have hmk := make_row Tryz.underlying103 Tryz.infoBool rfl n (by omega) (by omega)
 clear h hrk hts hps hX hB hn hvp hb1 hw1 hXBB
 go_enter Tryz.func145, Tryz.ntmps145
 go_upto_region 1 with fail
 rw [HW1.out.1, HW1.out.2]
 obtain ⟨w3, hw3⟩ : ∃ w3, w3 = ((w1.alloc (.cells (Array.replicate n (.bool false)) 4)).alloc (.cells #[.slice (some ⟨w1.heap.size, 0, none⟩) n n] 103)).alloc (.cells #[.func (.func 180) #[] #[.pointer (some ⟨w1.heap.size + 1, 0, none⟩), .pointer (some ⟨XB, 0, none⟩), .pointer (some ⟨w1.heap.size + 1 + 1, 0, none⟩)]] 276) := ⟨_, rfl⟩
 have hm := HP1.out.1.exo_made (n := n) w3 hw3
 obtain ⟨Q, hQ⟩ : ∃ Q, Q = w1.heap.size := ⟨_, rfl⟩
 obtain ⟨KB, hKB⟩ : ∃ KB, KB = w1.heap.size + 1 := ⟨_, rfl⟩
 obtain ⟨NB, hNB⟩ : ∃ NB, NB = w1.heap.size + 1 + 1 := ⟨_, rfl⟩
 rw [← hNB, ← hKB, ← hQ] at hm
 have HP3 : Hid (PlS w0 F (exO Q KB XB NB X n fun _ => false) d w3 ∧ Stays F F w w3 ∧ w.heap.size ≤ w3.heap.size) := ⟨hm.1, HP1.out.2.1.trans hm.2.1 HP1.out.2.2, Nat.le_trans HP1.out.2.2 (by rw [← hQ]; exact hm.2.2)⟩
 have HW3 : Hid (((w1.alloc (.cells (Array.replicate n (.bool false)) 4)).alloc (.cells #[.slice (some ⟨w1.heap.size, 0, none⟩) n n] 103)).alloc (.cells #[.func (.func 180) #[] #[.pointer (some ⟨w1.heap.size + 1, 0, none⟩), .pointer (some ⟨XB, 0, none⟩), .pointer (some ⟨w1.heap.size + 1 + 1, 0, none⟩)]] 276) = w3 ∧ w1.heap.size + 1 + 1 = NB) := ⟨hw3.symm, hNB.symm⟩
 clear hm hQ hKB hNB hw3
 go_upto_region 4 with fail
 rw [HW3.out.1, HW3.out.2]
 clear hmk x1 x5 b0
 obtain ⟨_, x1, _⟩ := HP3.out.1.exo
 have x5 : w3.cell? ⟨X, 0 + 5, none⟩ = some (.pointer (some ⟨B, 0, none⟩)) := by rw [HXB.out.1, HXB.out.2.1]; exact HP3.out.1.xcell
 have b0 : w3.cell? ⟨B, 0, none⟩ = some (.slice o n c) := by rw [HXB.out.2.1, cell_of_row _ _ _ _ _ (0, 0) HP3.out.1.bb, ← HVP.out]; rfl
 go_wp2
 clear x1 x5 b0
 go_loopw [23] (fun t wr => ∃ (j : Nat) (vt : Value) (ts : List Nat) (g : Nat → Bool), j ≤ n ∧ t = .int .i64 j ∧ Hid (PlS w0 F (exO Q KB XB NB X n g) { d with vt := vt, ts := ts } wr ∧ Odm (d.ps.map Prt.q) (fun _ => False) g ts ∧ (∀ k, k < j → g k = true) ∧ w.heap.size ≤ wr.heap.size ∧ Stays F F w wr)) (fun t _ => n - (intOf t).toNat)
 case atStart => exact ⟨0, d.vt, d.ts, _, Nat.zero_le _, rfl, HP3.out.1, by rw [HRK.out.2.1]; exact ⟨List.nodup_nil, fun x hx => (by cases hx), fun x _ hx => (by cases hx), fun a x b h => by cases a <;> cases h⟩, fun k hk => by omega, HP3.out.2.2, HP3.out.2.1⟩
 case round =>
  obtain ⟨j, vt, ts, g, hj, rfl, HR⟩ := hrel
  by_cases hjl : j < n
  ·obtain ⟨_, _, j2⟩ := HR.out.1.exo
   have hca := need_any (rk j + 1) rk j (Nat.lt_succ_self _) w0 wr F { d with vt := vt, ts := ts } Q KB XB NB X n (fun _ => False) g HXB.out.1 HXB.out.2.2 HR.out.1 HRK.out.1 HR.out.2.1 HRK.out.2.2 (by have := HXB.out.2.2; show j < d.ps.length; omega) (fun _ h => h.elim)
   have HCA : Hid (Calls Tryz.prog 180 #[.int .i64 (j : Int), .pointer (some ⟨KB, 0, none⟩), .pointer (some ⟨XB, 0, none⟩), .pointer (some ⟨NB, 0, none⟩)] wr fun e w' => e = .returned (.tuple #[]) ∧ ∃ vt' ts' g'', PlS w0 F (exO Q KB XB NB X n g'') { d with vt := vt', ts := ts' } w' ∧ Odm (d.ps.map Prt.q) (fun _ => False) g'' ts' ∧ (∀ x, g x = true → g'' x = true) ∧ g'' j = true ∧ wr.heap.size ≤ w'.heap.size ∧ Stays F F wr w') := hca
   have HJ := hidP hjl
   have HRR := HR
   have N4 : Hid (wrap64 ((j : Int) + 1) = (j : Int) + 1) := by have := HJ.out; have := HRK.out.2.2; have := HXB.out.2.2; unfold Hid wrap64; omega
   clear hca hj hjl HR
   go_wp2_with (go_at_call 180; refine HCA.out.mono ?_; rintro e w5 ⟨rfl, vt', ts', g'', hP5, hO5, hg5, hx5, hs5, hst5⟩)
   have HNX : Hid (PlS w0 F (exO Q KB XB NB X n g'') { d with vt := vt', ts := ts' } w5 ∧ Odm (d.ps.map Prt.q) (fun _ => False) g'' ts' ∧ (∀ k, k < j + 1 → g'' k = true) ∧ w.heap.size ≤ w5.heap.size ∧ Stays F F w w5) := by
    obtain ⟨_, _, h3, h4, h5⟩ := HRR.out
    refine ⟨hP5, hO5, fun k hk => ?_, Nat.le_trans h4 hs5, h5.trans hst5 h4⟩
    by_cases e : k = j
    ·subst e; exact hx5
    ·exact hg5 _ (h3 k (by omega))
   clear hP5 hO5 hg5 hx5 hs5 hst5 j2 HCA
   exact ⟨⟨j + 1, vt', ts', g'', HJ.out, by rw [N4.out]; rfl, HNX.out⟩, by rw [N4.out]; have := HJ.out; simp [intOf]; omega⟩
  ·obtain rfl : n = j := by omega
   have HE : Hid (w.heap.size ≤ wr.heap.size ∧ PlS w0 F [] { d with vt := vt, ts := ts } wr ∧ Trn (d.ps.map Prt.q) ts ∧ Stays F F w wr) := by
    obtain ⟨h1, h2, h3, h4, h5⟩ := HR.out
    refine ⟨h4, h1.pop.pop.pop.pop, ⟨h2.nd, fun x hx => ⟨(h2.t x hx).1, (h2.t x hx).2.1⟩, fun x hx => ?_, h2.o⟩, h5⟩
    rcases h2.k x hx (h3 x (by rw [List.length_map] at hx; have := HXB.out.2.2; omega)) with h | h | h
    ·exact h.elim
    ·exact .inl h
    ·exact .inr h
   clear hj hjl HR
   go_wp2
   go_end0
   exact ⟨rfl, HE.out.1, vt, ts, HE.out.2⟩
end Go.Proofs.YtiejfopholdbnaaGreatDoor
