/-
  package order: needsOf BY CONTRACT.
-/
import Derived.Test.YtiejfopholdbnaaGreatDoorQ25
import Derived.Test.YtiejfopholdbnaaGreatDoorQ11
namespace Go.Proofs.YtiejfopholdbnaaGreatDoor
open Go.RowKit Go.Maps
def numN (fs : List Fw) : Nat → List UInt8 → Option Nat
 | 0 => fun _ => none
 | j + 1 => match fs[j]? with
  | some x => fun s => if s = x.name.data.toList then some j else numN fs j s
  | none => numN fs j
def numI (fs : List Fw) (j : Nat) : List UInt8 → Option Int := fun s => (numN fs j s).map (fun k : Nat => (k : Int))
theorem numI_step {fs : List Fw} {j : Nat} {x : Fw} (h : fs[j]? = some x) : kStep (numI fs j) (x.name, (j : Int)) = numI fs (j + 1) := by
 funext s
 unfold kStep numI
 simp only [numN, h]
 by_cases e : s = x.name.data.toList
 ·rw [if_pos e, if_pos e]; rfl
 ·rw [if_neg e, if_neg e]
theorem numN_lt {fs : List Fw} : ∀ {j : Nat} {s : List UInt8} {k : Nat}, numN fs j s = some k → k < j ∧ ∃ x, fs[k]? = some x ∧ x.name.data.toList = s
 | 0, s, k, h => by simp [numN] at h
 | j + 1, s, k, h => by
  unfold numN at h
  cases hx : fs[j]? with
  | none =>
   rw [hx] at h
   obtain ⟨h1, h2⟩ := numN_lt h
   exact ⟨by omega, h2⟩
  | some x =>
   rw [hx] at h
   simp only at h
   by_cases e : s = x.name.data.toList
   ·rw [if_pos e] at h
    obtain rfl := Option.some.inj h
    exact ⟨by omega, x, hx, e.symm⟩
   ·rw [if_neg e] at h
    obtain ⟨h1, h2⟩ := numN_lt h
    exact ⟨by omega, h2⟩
def ndF (fs : List Fw) : List (List Nat) := fs.map fun f => (onE f.e).filterMap (numN fs fs.length)
def ndJ (fs : List Fw) (j : Nat) : List (List Int) := ((fs.take j).map fun f => (onE f.e).filterMap (numI fs fs.length)) ++ List.replicate (fs.length - j) []
theorem ndJ_length {fs : List Fw} {j : Nat} (h : j ≤ fs.length) : (ndJ fs j).length = fs.length := by
 simp [ndJ]
 omega
theorem ndJ_at {fs : List Fw} {j : Nat} (h : j < fs.length) : (ndJ fs j)[j]? = some [] := by
 unfold ndJ
 have e1 : ((fs.take j).map fun f => (onE f.e).filterMap (numI fs fs.length)).length = j := by simp; omega
 rw [List.getElem?_append_right (by omega), e1, Nat.sub_self, List.getElem?_replicate, if_pos (by omega)]
theorem ndJ_step {fs : List Fw} {j : Nat} {x : Fw} (h : fs[j]? = some x) : (ndJ fs j).set j ([] ++ (onE x.e).filterMap (numI fs fs.length)) = ndJ fs (j + 1) := by
 have hj := (List.getElem?_eq_some_iff.1 h).1
 unfold ndJ
 rw [List.set_append_right _ _ (by simp; omega)]
 have e1 : j - ((fs.take j).map fun f => (onE f.e).filterMap (numI fs fs.length)).length = 0 := by simp; omega
 rw [e1, show fs.length - j = (fs.length - (j + 1)) + 1 from by omega, List.replicate_succ, List.set_cons_zero, List.take_add_one, h]
 simp
theorem ndJ_all (fs : List Fw) : ndJ fs fs.length = (ndF fs).map fun l => l.map fun k => ((k : Nat) : Int) := by
 unfold ndJ ndF numI
 rw [List.take_length, Nat.sub_self, List.replicate_zero, List.append_nil, List.map_map]
 refine List.map_congr_left fun f _ => ?_
 simp only [Function.comp_apply, List.map_filterMap]
theorem RwsAt.add {w : World} {base nb : Nat} {F : Nat → Prop} {ls : List (List Int)} (h : RwsAt w base nb F ls) (o : Obj) : RwsAt (w.alloc o) base nb (fun k => F k ∨ k = w.heap.size) ls := by
 have h' := h.alloc o
 obtain ⟨vs, h1, h2, h3, h4, h5, h6⟩ := h'
 obtain ⟨us, g1, g2, g3, g4, g5, g6⟩ := h
 have hn : (w.alloc o).heap[nb]? = w.heap[nb]? := ((Below.refl w.heap.size w).alloc (Nat.le_refl _) o).block nb (Array.getElem?_eq_some_iff.1 g1).1
 have he : vs = us := by
  rw [hn, g1] at h1
  have := Option.some.inj h1
  injection this with e1
  exact (List.toArray_inj e1).symm
 subst he
 refine ⟨vs, h1, h2, h3, fun k hk => ?_, fun i v l hv hl => ⟨(h5 i v l hv hl).1, fun k hk => ⟨((h5 i v l hv hl).2 k hk).1, fun hF => ?_⟩⟩, h6⟩
 ·rcases hk with hk | rfl
  ·exact h4 k hk
  ·simp
 ·rcases hF with hF | rfl
  ·exact ((h5 i v l hv hl).2 k hk).2 hF
  ·have := ((g5 i v l hv hl).1.lt _ hk).2
   omega
theorem repl_at {α : Type} {n i : Nat} {x y : α} (h : (List.replicate n x)[i]? = some y) : y = x := by
 rw [List.getElem?_replicate] at h
 split at h
 ·exact (Option.some.inj h).symm
 ·cases h
theorem RwsAt.made {w : World} {base : Nat} {F : Nat → Prop} (n : Nat) (hb : base ≤ w.heap.size) (hF : ∀ k, F k → k < w.heap.size) : RwsAt (w.alloc (.cells (Array.replicate n (.slice none 0 0)) 30)) base w.heap.size F (List.replicate n []) := by
 refine ⟨List.replicate n (.slice none 0 0), ?_, by simp, hb, fun k hk => by have := hF k hk; simp; omega, fun i v l hv hl => ?_, fun i j v u _ hv _ k hk => ?_⟩
 ·rw [heap_alloc_new]
  simp
 ·obtain rfl := repl_at hv
  obtain rfl := repl_at hl
  exact ⟨World.ownsRow_nil _ _ _ _, fun k hk => by simp [Value.ownBlock] at hk⟩
 ·obtain rfl := repl_at hv
  simp [Value.ownBlock] at hk
theorem Tryz.infoSlI : (Tryz.prog.info? 30).map (fun i => (i.zero, i.size, i.bytes)) = some (some (.slice none 0 0), 1, 24) := by kernel_rfl
theorem Tryz.infoBoo : (Tryz.prog.info? 4).map (fun i => (i.zero, i.size, i.bytes)) = some (some (.bool false), 1, 1) := by kernel_rfl
theorem made_one (z : Value) (n : Nat) (h : z.cells = #[z]) : madeCells z.cells (n * 1) = Array.replicate n z := by
 apply Array.toList_inj.1
 rw [Nat.mul_one, h]
 simpa using toList_madeCells_one z n
theorem make_row {t e : TypeId} {z : Value} {by' : Nat} (ht : Tryz.prog.underlying t = some (.slice e)) (hi : (Tryz.prog.info? e).map (fun i => (i.zero, i.size, i.bytes)) = some (some z, 1, by')) (hz : z.cells = #[z]) (n : Nat) (hn : n ≤ 100000) (hb : by' ≤ 24) (w : World) :
  (Instr.makeSlice t (.int .i64 n) (.int .i64 n)).run Tryz.prog w = .ok (.slice (some ⟨w.heap.size, 0, none⟩) n n) (w.alloc (.cells (Array.replicate n z) e)) := by
 obtain ⟨i0, hi0, hz0, hz1, hz2⟩ := info_parts hi
 have h2 : i0.bytes * n ≤ 24 * 100000 := Nat.mul_le_mul (by omega) hn
 have := run_makeSlice w t e i0 z ht hi0 hz0 .i64 .i64 n n (by omega) (Int.le_refl _) (by rw [hz1]; simp; omega) (by
  have h3 : ((i0.bytes * n : Nat) : Int) ≤ 281474976710656 := by omega
  rwa [Int.natCast_mul] at h3) (by omega)
 rw [hz1, Int.toNat_natCast, made_one z n hz] at this
 exact this
set_option maxRecDepth 100000
set_option maxHeartbeats 4000000

mutual
theorem onE_len : ∀ e : Ex, (onE e).length ≤ szE e
 | .mk op n s l => by
  have h1 := onL_len l
  have h2 := onH_len l
  unfold onE szE
  rw [List.length_append]
  split <;> split <;> (try split) <;> rename_i a b <;> simp_all <;> (try omega)
  all_goals (simp [lName, lPre, lFby] at *)
theorem onL_len : ∀ l : List Ex, (onL l).length ≤ szL l
 | [] => by simp [onL, szL]
 | e :: l => by
  have h1 := onE_len e
  have h2 := onL_len l
  simp only [onL, szL, List.length_append]
  omega
theorem onH_len : ∀ l : List Ex, (onH l).length ≤ szL l
 | [] => by simp [onH, szL]
 | e :: l => by
  have h1 := onE_len e
  simp only [onH, szL]
  omega
end
structure NeP (w0 : World) (p3 p6 K nK nb : Nat) (num : List UInt8 → Option Int) (ls : List (List Int)) (wr : World) : Prop where
 c3 : wr.heap[p3]? = some (.cells #[.map (some K)] 96 (0, 0))
 c6 : wr.heap[p6]? = some (.cells #[.slice (some ⟨nb, 0, none⟩) ls.length ls.length] 80 (0, 0))
 fn : FnAt wr K nK (kindF num)
 rows : RwsAt wr w0.heap.size nb (fun k => k = p3 ∨ k = p6 ∨ k = K) ls
 ne : p3 ≠ nb ∧ p6 ≠ nb ∧ K ≠ nb
 below : Below w0.heap.size w0 wr
theorem NeP.with {w0 wr : World} {p3 p6 K nK nb i : Nat} {num : List UInt8 → Option Int} {ls : List (List Int)} (h : NeP w0 p3 p6 K nK nb num ls wr) : NeS w0 p3 p6 wr.heap.size K nK nb num i ls (wr.alloc (.cells #[.int .i64 i] 3)) := by
 have hb : Below wr.heap.size wr (wr.alloc (.cells #[.int .i64 i] 3)) := bal
 have hlt := h.rows.lt
 exact ⟨row_keep hb h.c3, row_keep hb h.c6, heap_alloc_new _ _, h.fn.kept (hb.block _ h.fn.lt), (h.rows.add _).fewer (fun k hk => by
  rcases hk with h | h | h | h
  ·exact .inl (.inl h)
  ·exact .inl (.inr (.inl h))
  ·exact .inr h
  ·exact .inl (.inr (.inr h))), ⟨h.ne.1, h.ne.2.1, by omega, h.ne.2.2⟩, h.below.trans (hb.mono h.below.size)⟩
theorem NeS.without {w0 wr : World} {p3 p6 p7 K nK nb i : Nat} {num : List UInt8 → Option Int} {ls : List (List Int)} (h : NeS w0 p3 p6 p7 K nK nb num i ls wr) : NeP w0 p3 p6 K nK nb num ls wr :=
 ⟨h.c3, h.c6, h.fn, h.rows.fewer (fun k hk => by
  rcases hk with h | h | h
  ·exact .inl h
  ·exact .inr (.inl h)
  ·exact .inr (.inr (.inr h))), ⟨h.ne.1, h.ne.2.1, h.ne.2.2.2⟩, h.below⟩
theorem needsOf_any (w : World) (S : Nat → Prop) (p : Pg) (o3 : Option Addr) (c3 : Nat) (v1 v2 v4 v5 : Value) (hp : PgAt w S p v1 v2 (.slice o3 p.fs.length c3) v4 v5) (hok : PgOk p) (hfb : fbL (termsP p)) :
  Calls Tryz.prog 35 #[.agg #[v1, v2, .slice o3 p.fs.length c3, v4, v5]] w fun e w' => ∃ nb, e = .returned (.slice (some ⟨nb, 0, none⟩) p.fs.length p.fs.length) ∧ RwsAt w' w.heap.size nb (fun _ => False) ((ndF p.fs).map fun l => l.map fun k => ((k : Nat) : Int)) ∧ Below w.heap.size w w' := by
 have hmm := @run_makeMap Tryz.prog
 obtain ⟨_, _, ⟨xs, hfr, hfi⟩, _, _⟩ := hp
 obtain ⟨w1, hw1⟩ : ∃ w1, w1 = w.alloc (.cells #[v1, v2, .slice o3 p.fs.length c3, v4, v5] 39) := ⟨_, rfl⟩
 have hb1 : Below w.heap.size w w1 := by rw [hw1]; exact bal
 have hr1 : w1.heap[w.heap.size]? = some (.cells #[v1, v2, .slice o3 p.fs.length c3, v4, v5] 39 (0, 0)) := by rw [hw1]; exact heap_alloc_new _ _
 obtain ⟨w2, hw2⟩ : ∃ w2, w2 = w1.alloc (.map #[] 0) := ⟨_, rfl⟩
 have hb2 : Below w1.heap.size w1 w2 := by rw [hw2]; exact bal
 have hf2 : FnAt w2 w1.heap.size 0 (kindF (fun _ => none)) := by rw [hw2, kindF_none]; exact FnAt.made w1
 obtain ⟨K, hK⟩ : ∃ K, K = w1.heap.size := ⟨_, rfl⟩
 rw [← hK] at hf2
 obtain ⟨w3, hw3⟩ : ∃ w3, w3 = w2.alloc (.cells #[.map (some K)] 96) := ⟨_, rfl⟩
 have hb3 : Below w2.heap.size w2 w3 := by rw [hw3]; exact bal
 obtain ⟨p3, hp3⟩ : ∃ p3, p3 = w2.heap.size := ⟨_, rfl⟩
 have hr3 : w3.heap[p3]? = some (.cells #[.map (some K)] 96 (0, 0)) := by rw [hw3, hp3]; exact heap_alloc_new _ _
 have hs1 : w1.heap.size = w.heap.size + 1 := by rw [hw1]; simp
 have hs2 : w2.heap.size = w1.heap.size + 1 := by rw [hw2]; simp
 have hb13 := (hb2.trans (hb3.mono hb2.size))
 have e2 : w3.cell? ⟨w.heap.size, 0 + 2, none⟩ = some (.slice o3 p.fs.length c3) := by rw [cell_of_row w3 _ _ _ _ (0, 0) (row_keep hb13 hr1)]; rfl
 have HF3 : Hid (FnAt w3 K 0 (kindF (fun _ => none))) := hf2.kept (hb3.block _ hf2.lt)
 have HB3 : Hid (Below w.heap.size w w3) := hb1.trans (hb13.mono hb1.size)
 have HR3 := hidP hr3
 have HP3 : Hid (w3.heap[w.heap.size]? = some (.cells #[v1, v2, .slice o3 p.fs.length c3, v4, v5] 39 (0, 0))) := row_keep hb13 hr1
 have HW1 : Hid (w.alloc (.cells #[v1, v2, .slice o3 p.fs.length c3, v4, v5] 39) = w1) := hw1.symm
 have HW2 : Hid (w1.alloc (.map #[] 0) = w2) := hw2.symm
 have HW3 : Hid (w2.alloc (.cells #[.map (some K)] 96) = w3) := hw3.symm
 have HKE : Hid (w.heap.size + 1 = K ∧ w.heap.size + 1 + 1 = p3) := by unfold Hid; omega
 have HFR := hidP hfr
 have HFI := hidP hfi
 have HOK : Hid (PgOk p ∧ fbL (termsP p) ∧ p.fs.length ≤ 1000) := ⟨hok, hfb, by have := hok.vars; omega⟩
 clear hfr hfi hok hfb hb1 hr1 hw2 hb2 hf2 hw3 hb3 hr3 hs2 hb13 hw1 hs1 hK hp3
 go_enter Tryz.func35, Tryz.ntmps35
 go_upto_region 1 with fail
 go_upto_region 2 with fail
 rw [HKE.out.2, HKE.out.1, HW1.out, HW2.out, HW3.out]
 go_wp2
 clear e2
 go_loopw [13] (fun t wr => ∃ (j n : Nat), j ≤ p.fs.length ∧ t = .int .i64 j ∧ Hid (FnAt wr K n (kindF (numI p.fs j)) ∧ n ≤ j ∧ Below w.heap.size w wr ∧ wr.heap[w.heap.size]? = some (.cells #[v1, v2, .slice o3 p.fs.length c3, v4, v5] 39 (0, 0)) ∧ wr.heap[p3]? = some (.cells #[.map (some K)] 96 (0, 0)))) (fun t _ => p.fs.length - (intOf t).toNat)
 case atStart => exact ⟨0, 0, Nat.zero_le _, rfl, ⟨HF3.out, Nat.le_refl _, HB3.out, HP3.out, HR3.out⟩⟩
 case round =>
  obtain ⟨j, n, hj, rfl, HJR⟩ := hrel
  by_cases hjl : j < p.fs.length
  ·obtain ⟨name, kind, op', n', s', es, oo, cc, zs, e, x0, x1, x2, x3, x4, x5, _, _⟩ := HFI.out.at hjl
   obtain ⟨b, off, cp, ev, _, _, g⟩ := HFR.out.at (by have := HFR.out.1; omega)
   obtain ⟨rfl, rfl⟩ : o3 = some ⟨b, off, none⟩ ∧ c3 = cp := by simpa using ev
   obtain ⟨hfn, hnj, hbr, hpr, hp3⟩ := HJR.out
   have y0 := cell_keep hbr (g _ _ x0)
   have y1 := cell_keep hbr (g _ _ x1)
   have y2 := cell_keep hbr (g _ _ x2)
   have y3 := cell_keep hbr (g _ _ x3)
   have y4 := cell_keep hbr (g _ _ x4)
   have y5 := cell_keep hbr (g _ _ x5)
   rw [← Nat.add_assoc] at y1 y2 y3 y4 y5
   have i0' : (0 : Int) ≤ (j : Int) := by omega
   have i1' : (j : Int) < (p.fs.length : Int) := by omega
   have ej : p.fs[j]? = some ⟨name, kind, .mk op' n' s' es⟩ := by rw [List.getElem?_eq_getElem hjl, e]
   have hsn : name.size ≤ maxLen := HOK.out.1.names (name, kind) (by unfold varsP varsF; exact List.mem_append_right _ (List.mem_map.2 ⟨_, List.mem_of_getElem? ej, rfl⟩))
   obtain ⟨w4, hw4⟩ : ∃ w4, w4 = wr.alloc (.cells #[.string name, .int .i64 kind, .string op', .int .i64 n', .string s', .slice oo es.length cc] 95) := ⟨_, rfl⟩
   have hb4 : Below wr.heap.size wr w4 := by rw [hw4]; exact bal
   have hr4 : w4.heap[wr.heap.size]? = some (.cells #[.string name, .int .i64 kind, .string op', .int .i64 n', .string s', .slice oo es.length cc] 95 (0, 0)) := by rw [hw4]; exact heap_alloc_new _ _
   have z0 : w4.cell? ⟨wr.heap.size, 0, none⟩ = some (.string name) := cr hr4 rfl
   have q3 : w4.cell? ⟨p3, 0, none⟩ = some (.map (some K)) := by rw [cell_of_row w4 _ _ _ _ (0, 0) (row_keep hb4 hp3)]; rfl
   have hfn4 : FnAt w4 K n (kindF (numI p.fs j)) := hfn.kept (hb4.block _ hfn.lt)
   obtain ⟨w5, hup, hfn5, hgr5⟩ := hfn4.put Tryz.underlying96 (by have := HOK.out.2.2; unfold maxLen; omega) name hsn (.int .i64 j)
   rw [kindF_step _ (name, (j : Int)), numI_step ej] at hfn5
   have hKe := HKE.out
   have HB5 : Hid (Below w.heap.size w w5) := below_grown (hbr.trans (hb4.mono hbr.size)) hgr5 (by omega)
   have HP5 : Hid (w5.heap[w.heap.size]? = some (.cells #[v1, v2, .slice (some ⟨b, off, none⟩) p.fs.length c3, v4, v5] 39 (0, 0))) := heap_grown' hgr5 (fun e => by
    have h2 : K = w.heap.size := by simpa using e
    omega) (row_keep hb4 hpr)
   have HR5 : Hid (w5.heap[p3]? = some (.cells #[.map (some K)] 96 (0, 0))) := heap_grown' hgr5 (fun e => by
    have h2 : K = p3 := by simpa using e
    omega) (row_keep hb4 hp3)
   have HF5 : Hid (FnAt w5 K (n + 1) (kindF (numI p.fs (j + 1))) ∧ n + 1 ≤ j + 1) := ⟨hfn5, by omega⟩
   have HJ := hidP hjl
   have N4 : Hid (wrap64 ((j : Int) + 1) = (j : Int) + 1) := by have := HOK.out.2.2; have := HJ.out; unfold Hid wrap64; omega
   have HW4 : Hid (wr.alloc (.cells #[.string name, .int .i64 kind, .string op', .int .i64 n', .string s', .slice oo es.length cc] 95) = w4) := hw4.symm
   clear hfn hnj hbr hpr hp3 g ev x0 x1 x2 x3 x4 x5 e ej hsn hw4 hb4 hr4 hfn4 hfn5 hgr5 hj hjl hKe
   go_upto_region 5 with fail
   rw [HW4.out]
   clear y0 y1 y2 y3 y4 y5
   go_wp2
   exact ⟨⟨j + 1, n + 1, HJ.out, by rw [N4.out]; rfl, ⟨HF5.out.1, HF5.out.2, HB5.out, HP5.out, HR5.out⟩⟩, by rw [N4.out]; have := HJ.out; simp [intOf]; omega⟩
  ·obtain rfl : j = p.fs.length := by omega
   obtain ⟨hfn, hnj, hbr, hpr, hp3⟩ := HJR.out
   have e2 : wr.cell? ⟨w.heap.size, 0 + 2, none⟩ = some (.slice o3 p.fs.length c3) := cr hpr rfl
   have hmk := make_row Tryz.underlying80 Tryz.infoSlI rfl p.fs.length (by have := HOK.out.2.2; omega) (Nat.le_refl _)
   obtain ⟨nb, hnb⟩ : ∃ nb, nb = wr.heap.size := ⟨_, rfl⟩
   obtain ⟨W1, hW1⟩ : ∃ W1, W1 = wr.alloc (.cells (Array.replicate p.fs.length (.slice none 0 0)) 30) := ⟨_, rfl⟩
   obtain ⟨W2, hW2⟩ : ∃ W2, W2 = W1.alloc (.cells #[.slice (some ⟨nb, 0, none⟩) p.fs.length p.fs.length] 80) := ⟨_, rfl⟩
   have hbW1 : Below wr.heap.size wr W1 := by rw [hW1]; exact bal
   have hbW2 : Below W1.heap.size W1 W2 := by rw [hW2]; exact bal
   have hbW : Below wr.heap.size wr W2 := hbW1.trans (hbW2.mono hbW1.size)
   have hsW1 : W1.heap.size = nb + 1 := by rw [hW1, hnb]; simp
   have hlt3 : p3 < wr.heap.size := (Array.getElem?_eq_some_iff.1 hp3).1
   have hltK := hfn.lt
   have hKe := HKE.out
   have hP : NeP w p3 (nb + 1) K n nb (numI p.fs p.fs.length) (ndJ p.fs 0) W2 := by
    have hl0 : (ndJ p.fs 0).length = p.fs.length := ndJ_length (Nat.zero_le _)
    have hj0 : ndJ p.fs 0 = List.replicate p.fs.length [] := by simp [ndJ]
    refine ⟨row_keep hbW hp3, ?_, hfn.kept (hbW.block _ hltK), ?_, ⟨by omega, by omega, by omega⟩, hbr.trans (hbW.mono hbr.size)⟩
    ·rw [hl0, hW2, ← hsW1]; exact heap_alloc_new _ _
    ·have h1 : RwsAt W1 w.heap.size nb (fun k => k = p3 ∨ k = K) (ndJ p.fs 0) := by
      rw [hj0, hW1, hnb]
      exact RwsAt.made p.fs.length hbr.size (fun k hk => by rcases hk with rfl | rfl <;> omega)
     have h2 := h1.add (.cells #[.slice (some ⟨nb, 0, none⟩) p.fs.length p.fs.length] 80)
     rw [← hW2] at h2
     refine h2.fewer (fun k hk => ?_)
     rcases hk with h | h | h
     ·exact .inl (.inl h)
     ·exact .inr (by omega)
     ·exact .inl (.inr h)
   have e8 : W2.cell? ⟨w.heap.size, 0 + 2, none⟩ = some (.slice o3 p.fs.length c3) := cell_keep hbW e2
   have HP := hidP hP
   have HWS : Hid (wr.alloc (.cells (Array.replicate p.fs.length (.slice none 0 0)) 30) = W1 ∧ W1.alloc (.cells #[.slice (some ⟨nb, 0, none⟩) p.fs.length p.fs.length] 80) = W2 ∧ wr.heap.size = nb) := ⟨hW1.symm, hW2.symm, hnb.symm⟩
   clear hj hjl HJR hfn hnj hbr hpr hp3 hW1 hW2 hbW1 hbW2 hbW hsW1 hlt3 hltK hP hnb hKe
   go_upto_region 8 with fail
   rw [HWS.out.2.2, HWS.out.1, HWS.out.2.1]
   clear e2 hmk
   go_wp2
   clear e8
   go_loopw [30] (fun t wr => ∃ (j : Nat), j ≤ p.fs.length ∧ t = .int .i64 j ∧ Hid (NeP w p3 (nb + 1) K n nb (numI p.fs p.fs.length) (ndJ p.fs j) wr)) (fun t _ => p.fs.length - (intOf t).toNat)
   case atStart => exact ⟨0, Nat.zero_le _, rfl, HP⟩
   case round =>
    obtain ⟨j, hj, rfl, HJR⟩ := hrel
    by_cases hjl : j < p.fs.length
    ·obtain ⟨name, kind, op', n', s', es, oo, cc, zs, e, x0, x1, x2, x3, x4, x5, r1, r2⟩ := HFI.out.at hjl
     obtain ⟨b, off, cp, ev, _, _, g⟩ := HFR.out.at (by have := HFR.out.1; omega)
     obtain ⟨rfl, rfl⟩ : o3 = some ⟨b, off, none⟩ ∧ c3 = cp := by simpa using ev
     have hbr := HJR.out.below
     have y0 := cell_keep hbr (g _ _ x0)
     have y1 := cell_keep hbr (g _ _ x1)
     have y2 := cell_keep hbr (g _ _ x2)
     have y3 := cell_keep hbr (g _ _ x3)
     have y4 := cell_keep hbr (g _ _ x4)
     have y5 := cell_keep hbr (g _ _ x5)
     rw [← Nat.add_assoc] at y1 y2 y3 y4 y5
     have i0' : (0 : Int) ≤ (j : Int) := by omega
     have i1' : (j : Int) < (p.fs.length : Int) := by omega
     have ej : p.fs[j]? = some ⟨name, kind, .mk op' n' s' es⟩ := by rw [List.getElem?_eq_getElem hjl, e]
     have et : (termsP p)[j]? = some (.mk op' n' s' es) := by
      unfold termsP
      rw [List.getElem?_append_left (by simpa using hjl), List.getElem?_map, ej]
      rfl
     obtain ⟨w4, hw4⟩ : ∃ w4, w4 = wr.alloc (.cells #[.int .i64 j] 3) := ⟨_, rfl⟩
     obtain ⟨w5, hw5⟩ : ∃ w5, w5 = w4.alloc (.cells #[.string name, .int .i64 kind, .string op', .int .i64 n', .string s', .slice oo es.length cc] 95) := ⟨_, rfl⟩
     have hb5 : Below w4.heap.size w4 w5 := by rw [hw5]; exact bal
     have hs4 : w4.heap.size = wr.heap.size + 1 := by rw [hw4]; simp
     have hr5 : w5.heap[wr.heap.size + 1]? = some (.cells #[.string name, .int .i64 kind, .string op', .int .i64 n', .string s', .slice oo es.length cc] 95 (0, 0)) := by rw [hw5, ← hs4]; exact heap_alloc_new _ _
     have z2 : w5.cell? ⟨wr.heap.size + 1, 0 + 2, none⟩ = some (.string op') := cr hr5 rfl
     have z3 : w5.cell? ⟨wr.heap.size + 1, 0 + 2 + 1, none⟩ = some (.int .i64 n') := cr hr5 rfl
     have z4 : w5.cell? ⟨wr.heap.size + 1, 0 + 2 + 2, none⟩ = some (.string s') := cr hr5 rfl
     have z5 : w5.cell? ⟨wr.heap.size + 1, 0 + 2 + 3, none⟩ = some (.slice oo es.length cc) := cr hr5 rfl
     have hN4 : NeS w p3 (nb + 1) wr.heap.size K n nb (numI p.fs p.fs.length) j (ndJ p.fs j) w4 := by rw [hw4]; exact HJR.out.with
     have hca := atOnce_any (SizeOf.sizeOf es + 1) op' n' s' es (Nat.lt_succ_self _) w w5 p3 (nb + 1) wr.heap.size K n nb j (numI p.fs p.fs.length) (ndJ p.fs j) [] S oo cc zs (hN4.keep hb5) (ndJ_at hjl) (smL_at HOK.out.1.small et) (fbL_at HOK.out.2.1 et) r1 r2 (by
      have h1 := onE_len (.mk op' n' s' es)
      have h2 := szL_at et
      have h3 := HOK.out.1.parts
      simp only [List.length_nil]
      omega)
     rw [ndJ_step ej] at hca
     have HCA := hidP hca
     have hmf : ∀ (fn : Fn) (first cap : Array Value) (w : World), (Instr.makeFunc fn first cap).run Tryz.prog w = .ok (.func fn first cap) w := fun _ _ _ _ => rfl
     have HJ := hidP hjl
     have N4 : Hid (wrap64 ((j : Int) + 1) = (j : Int) + 1) := by have := HOK.out.2.2; have := HJ.out; unfold Hid wrap64; omega
     have HW45 : Hid (wr.alloc (.cells #[.int .i64 j] 3) = w4 ∧ w4.alloc (.cells #[.string name, .int .i64 kind, .string op', .int .i64 n', .string s', .slice oo es.length cc] 95) = w5) := ⟨hw4.symm, hw5.symm⟩
     clear hbr g ev x0 x1 x2 x3 x4 x5 r1 r2 e ej et hw4 hw5 hb5 hs4 hr5 hN4 hca hj hjl
     go_upto_region 11 with fail
     rw [HW45.out.1, HW45.out.2]
     clear y0 y1 y2 y3 y4 y5
     go_wp2_with fail
     refine HCA.out.mono ?_
     rintro e w6 ⟨rfl, h6⟩
     have HN6 : Hid (NeP w p3 (nb + 1) K n nb (numI p.fs p.fs.length) (ndJ p.fs (j + 1)) w6) := h6.without
     clear h6 z2 z3 z4 z5
     go_wp2
     exact ⟨⟨j + 1, HJ.out, by rw [N4.out]; rfl, HN6.out⟩, by rw [N4.out]; have := HJ.out; simp [intOf]; omega⟩
    ·obtain rfl : j = p.fs.length := by omega
     have hfin := HJR.out
     have e6 : wr.cell? ⟨nb + 1, 0, none⟩ = some (.slice (some ⟨nb, 0, none⟩) p.fs.length p.fs.length) := by
      have h1 := hfin.c6
      rw [ndJ_length (Nat.le_refl _)] at h1
      rw [cell_of_row wr _ _ _ _ (0, 0) h1]
      rfl
     have HE : Hid (RwsAt wr w.heap.size nb (fun _ => False) ((ndF p.fs).map fun l => l.map fun k => ((k : Nat) : Int)) ∧ Below w.heap.size w wr) := ⟨by have := hfin.rows; rw [ndJ_all] at this; exact this.fewer (fun _ h => h.elim), hfin.below⟩
     clear hfin hj hjl
     go_wp2
     go_ret
     exact ⟨nb, rfl, HE.out.1, HE.out.2⟩
end Go.Proofs.YtiejfopholdbnaaGreatDoor
