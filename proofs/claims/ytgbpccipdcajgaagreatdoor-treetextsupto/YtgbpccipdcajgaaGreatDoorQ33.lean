/-
  lustrumlaw1.NodesOf BY ITS CONTRACT: the same in new memory.
-/
import Derived.Test.YtgbpccipdcajgaaGreatDoorQ30
import Derived.Test.YtgbpccipdcajgaaGreatDoorQ23
namespace Go.Proofs.YtgbpccipdcajgaaGreatDoor
open Go.RowKit
attribute [local go_sem ↓] Go.wp_at_zero Go.wp_at_succ
abbrev tzNode : Obj := .cells #[.string ⟨#[]⟩, .slice none 0 0, .slice none 0 0, .slice none 0 0, .slice none 0 0] 70
def BT (wq : World) (name : ByteArray) (ins outs owns : List Ex) (s : Value) (wc : World) : Prop := ∃ (nb : Nat) (so1 : Option Addr) (sc1 : Nat) (so2 : Option Addr) (sc2 : Nat) (so3 : Option Addr) (sc3 : Nat), s = .pointer (some ⟨nb, 0, none⟩) ∧ wq.heap.size ≤ nb ∧ nb < wc.heap.size ∧ Below wq.heap.size wq wc ∧ Hid (wc.heap[nb]? = some (.cells #[.string name, .slice so1 ins.length sc1, .slice so2 outs.length sc2, .slice so3 owns.length sc3, .slice none 0 0] 70)) ∧ Hid (RowAt wc (fun k => wq.heap.size ≤ k ∧ k ≠ nb) 2 (.slice so1 ins.length sc1) ins.length (varCells ins)) ∧ Hid (RowAt wc (fun k => wq.heap.size ≤ k ∧ k ≠ nb) 2 (.slice so2 outs.length sc2) outs.length (varCells outs)) ∧ Hid (RowAt wc (fun k => wq.heap.size ≤ k ∧ k ≠ nb) 2 (.slice so3 owns.length sc3) owns.length (varCells owns))
section
variable {wq v1 v2 v3 : World} {n1 n2 n3 : Nat} {name : ByteArray} {ins outs owns : List Ex} {so1 so2 so3 : Option Addr} {sc1 sc2 sc3 : Nat}
theorem bt_late (hq1 : Below wq.heap.size wq v1) (hc2 : Below v1.heap.size v1 v2) (hc3 : Below v2.heap.size v2 v3) (hr1 : RowAt v1 (From n1) 2 (.slice so1 ins.length sc1) ins.length (varCells ins)) (hr2 : RowAt v2 (From n2) 2 (.slice so2 outs.length sc2) outs.length (varCells outs)) (hr3 : RowAt v3 (From n3) 2 (.slice so3 owns.length sc3) owns.length (varCells owns)) (h1 : wq.heap.size ≤ n1) (h2 : wq.heap.size ≤ n2) (h3 : wq.heap.size ≤ n3) : BT wq name ins outs owns (.pointer (some ⟨v3.heap.size, 0, none⟩)) (v3.alloc (.cells #[.string name, .slice so1 ins.length sc1, .slice so2 outs.length sc2, .slice so3 owns.length sc3, .slice none 0 0] 70)) := by
 have z1 := hq1.size
 have z2 := hc2.size
 have z3 := hc3.size
 have hq3 : Below wq.heap.size wq v3 := (hq1.trans (hc2.mono z1)).trans (hc3.mono (by omega))
 exact ⟨v3.heap.size, so1, sc1, so2, sc2, so3, sc3, rfl, by omega, by simp, hq3.alloc (by omega) _, heap_alloc_new _ _, row_fin hr1 h1 (by omega) (fun k hk _ => (heap_alloc_old _ _ (by omega)).trans ((hc3.block k (by omega)).trans (hc2.block k hk))), row_fin hr2 h2 (by omega) (fun k hk _ => (heap_alloc_old _ _ (by omega)).trans (hc3.block k hk)), row_fin hr3 h3 (by omega) (fun k hk _ => heap_alloc_old _ _ hk)⟩
theorem bt_early (nb : Nat) (hz : v3.heap[nb]? = some tzNode) (hq1 : Below wq.heap.size wq v1) (hc2 : Below v1.heap.size v1 v2) (hc3 : Below v2.heap.size v2 v3) (hr1 : RowAt v1 (From n1) 2 (.slice so1 ins.length sc1) ins.length (varCells ins)) (hr2 : RowAt v2 (From n2) 2 (.slice so2 outs.length sc2) outs.length (varCells outs)) (hr3 : RowAt v3 (From n3) 2 (.slice so3 owns.length sc3) owns.length (varCells owns)) (h1 : wq.heap.size ≤ n1) (h2 : wq.heap.size ≤ n2) (h3 : wq.heap.size ≤ n3) (hnb : wq.heap.size ≤ nb) (e1 : nb < n1 ∨ v1.heap.size ≤ nb) (e2 : nb < n2 ∨ v2.heap.size ≤ nb) (e3 : nb < n3 ∨ v3.heap.size ≤ nb) :
  BT wq name ins outs owns (.pointer (some ⟨nb, 0, none⟩)) (((((v3.setCell ⟨nb, 0, none⟩ (.string name)).setCell ⟨nb, 1, none⟩ (.slice so1 ins.length sc1)).setCell ⟨nb, 2, none⟩ (.slice so2 outs.length sc2)).setCell ⟨nb, 3, none⟩ (.slice so3 owns.length sc3)).setCell ⟨nb, 4, none⟩ (.slice none 0 0)) := by
 have z1 := hq1.size
 have z2 := hc2.size
 have z3 := hc3.size
 have hq3 : Below wq.heap.size wq v3 := (hq1.trans (hc2.mono z1)).trans (hc3.mono (by omega))
 have F : ∀ k, k ≠ nb → (((((v3.setCell ⟨nb, 0, none⟩ (.string name)).setCell ⟨nb, 1, none⟩ (.slice so1 ins.length sc1)).setCell ⟨nb, 2, none⟩ (.slice so2 outs.length sc2)).setCell ⟨nb, 3, none⟩ (.slice so3 owns.length sc3)).setCell ⟨nb, 4, none⟩ (.slice none 0 0)).heap[k]? = v3.heap[k]? := fun k hk => (Below.heap_setCell _ _ _ _ hk).trans ((Below.heap_setCell _ _ _ _ hk).trans ((Below.heap_setCell _ _ _ _ hk).trans ((Below.heap_setCell _ _ _ _ hk).trans (Below.heap_setCell _ _ _ _ hk))))
 have hlt := (Array.getElem?_eq_some_iff.1 hz).1
 exact ⟨nb, so1, sc1, so2, sc2, so3, sc3, rfl, hnb, by simpa using hlt, below_set5 hq3 hnb, set_row (set_row (set_row (set_row (set_row hz)))), row_fin hr1 h1 e1 (fun k hk hn => (F k hn).trans ((hc3.block k (by omega)).trans (hc2.block k hk))), row_fin hr2 h2 e2 (fun k hk hn => (F k hn).trans (hc3.block k hk)), row_fin hr3 h3 e3 (fun k hk hn => F k hn)⟩
end
def FitQ (qs : List Ex) : Prop := ∀ (k : Nat) (hk : k < qs.length) (kind : ByteArray) (ns : List Ex) (op : ByteArray) (x : Int) (tx : ByteArray) (es : List Ex), qs[k] = .mk kind 0 b0 [lst ns, .mk op x tx es] → ns.length ≤ 8796093022208 ∧ es.length ≤ 2199023255552 ∧ Fit 2199023255552 es
def FitN (l : List Ex) : Prop := ∀ (i : Nat) (hi : i < l.length) (name : ByteArray) (ins outs owns qs : List Ex), l[i] = .mk name 0 b0 [lst ins, lst outs, lst owns, lst qs] → ins.length ≤ 5864062014805 ∧ outs.length ≤ 5864062014805 ∧ owns.length ≤ 5864062014805 ∧ qs.length ≤ 1353245080339 ∧ FitQ qs
theorem run_append_zero {P : Program} (w : World) (t ty e : TypeId) (i : TypeInfo) (ht : P.underlying t = some (.slice e)) (hi : P.info? e = some i) (no : Option Addr) (nc : Nat) : (Builtin.append_ #[t, t] ty #[.slice none 0 0, .slice no 0 nc]).run P w = .ok (.slice none 0 0) w := by
 cases no <;> simp [Builtin.append_, run_underlying ht, sizeOf, typeInfo, hi, Builtin.lenOf, Builtin.firstCells, loadCells, loadCellsFrom]
theorem step_append_zero {P : Program} (w : World) {ops : Array Oper} {o : Oper} {a : Go.Act} {K : Go.Act → World → Prop} {Q : Exit → Go.Act → World → Prop} {E : Prop} (hgd : o.guard = none) (s x : Operand) (t : TypeId)
  (ho : o.op = .call { callee := .builtin .append, args := #[s, x], argTypes := #[t, t] })
  (e : TypeId) (i : TypeInfo) (ht : P.underlying t = some (.slice e)) (hi : P.info? e = some i) (hs : a.eval s = .slice none 0 0) (no : Option Addr) (nc : Nat) (hx : a.eval x = .slice no 0 nc)
  (h : K (a.put o.dst (.slice none 0 0)) w) : if Region.wanted o (yielded ops a.tmps) = true then Oper.wp P o a w K Q else E := by
 have hw : Region.wanted o (yielded ops a.tmps) = true := by simp [Region.wanted, hgd]
 rw [if_pos hw]
 have hr := run_append_zero (P := P) w t o.type e i ht hi no nc
 unfold Oper.wp execOp
 simp only [ho, resolve, invoke, builtin, Sem.run_bind, Sem.run_pure, Result.andThen_ok, List.map_toArray, List.map_cons, List.map_nil, hs, hx, hr]
 exact h
def BR (wr : World) (qb : Nat) (kind op tx : ByteArray) (x : Int) (ns es : List Ex) (so : Option Addr) (sc : Nat) (ys : List Value) (wc : World) : Prop := ∃ (mo : Option Addr) (mc : Nat), qb < wc.heap.size ∧ Below wr.heap.size wr wc ∧ Hid (wc.heap[qb]? = some (.cells #[.string kind, .slice mo ns.length mc, .string op, .int .i64 x, .string tx, .slice so es.length sc] 107)) ∧ Hid (RowAt wc (fun j => wr.heap.size ≤ j ∧ j ≠ qb) 1 (.slice mo ns.length mc) ns.length (nameCells ns)) ∧ Hid (RowAt wc (fun j => wr.heap.size ≤ j ∧ j ≠ qb) 4 (.slice so es.length sc) es.length ys) ∧ Hid (ExIn wc (fun j => wr.heap.size ≤ j ∧ j ≠ qb) es ys)
abbrev tzEq : Obj := .cells #[.string ⟨#[]⟩, .slice none 0 0, .string ⟨#[]⟩, .int .i64 0, .string ⟨#[]⟩, .slice none 0 0] 107
def BQ (wr : World) (kind op tx : ByteArray) (x : Int) (es : List Ex) (s : Value) (wc : World) : Prop := ∃ (qb : Nat) (so : Option Addr) (sc : Nat) (ys : List Value), s = .pointer (some ⟨qb, 0, none⟩) ∧ wr.heap.size ≤ qb ∧ qb < wc.heap.size ∧ Below wr.heap.size wr wc ∧ Hid (wc.heap[qb]? = some (.cells #[.string kind, .slice none 0 0, .string op, .int .i64 x, .string tx, .slice so es.length sc] 107)) ∧ Hid (RowAt wc (fun j => wr.heap.size ≤ j ∧ j ≠ qb) 4 (.slice so es.length sc) es.length ys) ∧ Hid (ExIn wc (fun j => wr.heap.size ≤ j ∧ j ≠ qb) es ys)
theorem below_set6 {n N : Nat} {w w' : World} {a b c d e g : Value} (h : Below n w w') (hn : n ≤ N) : Below n w ((((((w'.setCell ⟨N, 0, none⟩ a).setCell ⟨N, 1, none⟩ b).setCell ⟨N, 2, none⟩ c).setCell ⟨N, 3, none⟩ d).setCell ⟨N, 4, none⟩ e).setCell ⟨N, 5, none⟩ g) :=
 (((((h.setCell hn _).setCell hn _).setCell hn _).setCell hn _).setCell hn _).setCell hn _
theorem bq_late {wr v1 : World} {kind op tx : ByteArray} {x : Int} {es : List Ex} {so : Option Addr} {sc : Nat} {ys : List Value} (hb1 : Below wr.drew.heap.size wr.drew v1) (h1 : RowAt v1 (From wr.drew.heap.size) 4 (.slice so es.length sc) es.length ys) (h2 : ExIn v1 (From wr.drew.heap.size) es ys) : BQ wr kind op tx x es (.pointer (some ⟨v1.heap.size, 0, none⟩)) (v1.alloc (.cells #[.string kind, .slice none 0 0, .string op, .int .i64 x, .string tx, .slice so es.length sc] 107)) := by
 have hz : wr.heap.size ≤ v1.heap.size := hb1.size
 have St : Stays (From wr.drew.heap.size) (fun j => wr.heap.size ≤ j ∧ j ≠ v1.heap.size) v1 (v1.alloc (.cells #[.string kind, .slice none 0 0, .string op, .int .i64 x, .string tx, .slice so es.length sc] 107)) := fun j hj hl => ⟨⟨hj, by omega⟩, heap_alloc_old _ _ hl⟩
 exact ⟨v1.heap.size, so, sc, ys, rfl, hz, by simp, (Below.drew (Below.refl _ _)).trans (hb1.alloc hz _), heap_alloc_new _ _, h1.keep St, h2.keep St⟩
theorem bq_early {wr v1 : World} {kind op tx : ByteArray} {x : Int} {es : List Ex} {so : Option Addr} {sc : Nat} {ys : List Value} (hb1 : Below (wr.alloc tzEq).drew.heap.size (wr.alloc tzEq).drew v1) (hz : v1.heap[wr.heap.size]? = some tzEq) (h1 : RowAt v1 (From (wr.alloc tzEq).drew.heap.size) 4 (.slice so es.length sc) es.length ys) (h2 : ExIn v1 (From (wr.alloc tzEq).drew.heap.size) es ys) : BQ wr kind op tx x es (.pointer (some ⟨wr.heap.size, 0, none⟩)) ((((((v1.setCell ⟨wr.heap.size, 0, none⟩ (.string kind)).setCell ⟨wr.heap.size, 1, none⟩ (.slice none 0 0)).setCell ⟨wr.heap.size, 2, none⟩ (.string op)).setCell ⟨wr.heap.size, 3, none⟩ (.int .i64 x)).setCell ⟨wr.heap.size, 4, none⟩ (.string tx)).setCell ⟨wr.heap.size, 5, none⟩ (.slice so es.length sc)) := by
 have hlt := (Array.getElem?_eq_some_iff.1 hz).1
 have hbw : Below wr.heap.size wr v1 := (Below.drew ((Below.refl _ _).alloc (Nat.le_refl _) tzEq)).trans (hb1.mono (by show _ ≤ (Array.push _ _).size; simp))
 have F : ∀ j, j ≠ wr.heap.size → ((((((v1.setCell ⟨wr.heap.size, 0, none⟩ (.string kind)).setCell ⟨wr.heap.size, 1, none⟩ (.slice none 0 0)).setCell ⟨wr.heap.size, 2, none⟩ (.string op)).setCell ⟨wr.heap.size, 3, none⟩ (.int .i64 x)).setCell ⟨wr.heap.size, 4, none⟩ (.string tx)).setCell ⟨wr.heap.size, 5, none⟩ (.slice so es.length sc)).heap[j]? = v1.heap[j]? := fun j hj => (Below.heap_setCell _ _ _ _ hj).trans ((Below.heap_setCell _ _ _ _ hj).trans ((Below.heap_setCell _ _ _ _ hj).trans ((Below.heap_setCell _ _ _ _ hj).trans ((Below.heap_setCell _ _ _ _ hj).trans (Below.heap_setCell _ _ _ _ hj)))))
 have St : Stays (From (wr.alloc tzEq).drew.heap.size) (fun j => wr.heap.size ≤ j ∧ j ≠ wr.heap.size) v1 ((((((v1.setCell ⟨wr.heap.size, 0, none⟩ (.string kind)).setCell ⟨wr.heap.size, 1, none⟩ (.slice none 0 0)).setCell ⟨wr.heap.size, 2, none⟩ (.string op)).setCell ⟨wr.heap.size, 3, none⟩ (.int .i64 x)).setCell ⟨wr.heap.size, 4, none⟩ (.string tx)).setCell ⟨wr.heap.size, 5, none⟩ (.slice so es.length sc)) := fun j hj hl => by
  have hj' : wr.heap.size + 1 ≤ j := by
   have : (wr.alloc tzEq).drew.heap.size = wr.heap.size + 1 := by show (Array.push _ _).size = _; simp
   unfold From at hj
   omega
  exact ⟨⟨by omega, by omega⟩, F j (by omega)⟩
 exact ⟨wr.heap.size, so, sc, ys, rfl, Nat.le_refl _, by simpa using hlt, below_set6 hbw (Nat.le_refl _), set_row (set_row (set_row (set_row (set_row (set_row hz))))), h1.keep St, h2.keep St⟩
set_option linter.unusedSimpArgs false in
set_option maxRecDepth 100000 in
set_option maxHeartbeats 40000000 in
theorem nodesOf_any (w : World) (S : Nat → Prop) (o : Option Addr) (c : Nat) (l : List Ex) (ys : List Value) (h1 : RowAt w S 5 (.slice o l.length c) l.length ys) (h2 : NdIn w S l ys) (hl : l.length ≤ 1256584717458) (hf : FitN l) :
  Calls Tryz.prog 20 #[.slice o l.length c] w fun e w' => (∃ so sc ys', e = .returned (.slice so l.length sc) ∧ RowAt w' (fun _ => True) 5 (.slice so l.length sc) l.length ys' ∧ NdIn w' (fun _ => True) l ys') ∧ Below w.heap.size w w' := by
 obtain ⟨i0, hi0, hz0, hz1, hz2⟩ := info_parts Tryz.infoNode
 have H1 : Hid (RowAt w S 5 (.slice o l.length c) l.length ys) := h1
 have H2 : Hid (NdIn w S l ys) := h2
 clear h1 h2
 go_enter Tryz.func20, Tryz.ntmps20
 go_wp2
 go_loopw [3, 4] (fun v t wr => ∃ (i : Nat) (so : Option Addr) (sc : Nat) (cells : List Value), i ≤ l.length ∧ t = .int .i64 i ∧ v = .slice so i sc ∧ Hid (wr.ownsRow w.heap.size 70 5 (.slice so i sc) i cells) ∧ Hid (NdIn wr (fun k => (Value.slice so i sc).ownBlock ≠ some k) (l.take i) cells) ∧ Below w.heap.size w wr) (fun _ t _ => l.length - (intOf t).toNat)
 case atStart => exact ⟨0, none, 0, [], Nat.zero_le _, rfl, rfl, World.ownsRow_nil _ _ _ _, .nil, Below.refl _ _⟩
 case round =>
  obtain ⟨i, so, sc, cells, hi, rfl, rfl, HO, HI, hb⟩ := hrel
  rename World => wq
  have hbz := hb.size
  by_cases hlt : i < l.length
  ·obtain ⟨name, ins, outs, owns, qs, o1, c1, o2, c2, o3, c3, o4, c4, zs, e, m0, m1, m2, m3, m4, r1, r2, r3, r4, r5⟩ := H2.out.at hlt
   obtain ⟨p, f, rfl, _, g⟩ := row_get H1.out (by have := H1.out.1; omega)
   have x0 := cell_keep hb (g _ _ m0)
   have x1 := cell_keep hb (g _ _ m1)
   have x2 := cell_keep hb (g _ _ m2)
   have x3 := cell_keep hb (g _ _ m3)
   have x4 := cell_keep hb (g _ _ m4)
   rw [← Nat.add_assoc] at x1 x2 x3 x4
   have i0' : (0 : Int) ≤ (i : Int) := by omega
   have i1 : (i : Int) < (l.length : Int) := by omega
   obtain ⟨hfi, hfo, hfw, hfq, hfqs⟩ := hf i hlt _ _ _ _ _ e
   have HS : Hid (∀ w', Below wq.heap.size wq w' → w'.cell? ⟨p, f + i * 5, none⟩ = some (.string name) ∧ w'.cell? ⟨p, f + i * 5 + 1, none⟩ = some (.slice o1 ins.length c1) ∧ w'.cell? ⟨p, f + i * 5 + 2, none⟩ = some (.slice o2 outs.length c2) ∧ w'.cell? ⟨p, f + i * 5 + 3, none⟩ = some (.slice o3 owns.length c3) ∧ Below wq.heap.size wq w') := fun w' hb => ⟨cell_keep hb x0, cell_keep hb x1, cell_keep hb x2, cell_keep hb x3, hb⟩
   have HV : ∀ {o' : Option Addr} {c' : Nat} {vs : List Ex}, RowAt w S 2 (.slice o' vs.length c') vs.length (varCells vs) → vs.length ≤ 5864062014805 → Hid (∀ w', Below wq.heap.size wq w' → Calls Tryz.prog 50 #[.slice o' vs.length c'] w' fun e w'' => (∃ so sc, e = .returned (.slice so vs.length sc) ∧ RowAt w'' (From w'.heap.size) 2 (.slice so vs.length sc) vs.length (varCells vs)) ∧ Below w'.heap.size w' w'') := fun h hn w' hb' => varsOf_any w' S _ _ _ (h.keep (Stays.below (hb.trans (hb'.mono hbz)) (fun _ h => h))) hn
   have HVi := HV r1 hfi
   have HVo := HV r2 hfo
   have HVw := HV r3 hfw
   have X4 : Hid (w.cell? ⟨p, f + i * 5 + 4, none⟩ = some (.slice o4 qs.length c4)) := by rw [Nat.add_assoc]; exact g _ _ m4
   have HR : Hid (RowAt w S 6 (.slice o4 qs.length c4) qs.length zs ∧ EqIn w S qs zs) := ⟨r4, r5⟩
   have e' : Hid (l[i] = .mk name 0 b0 [lst ins, lst outs, lst owns, lst qs]) := e
   clear HV r1 r2 r3 r4 r5 g m0 m1 m2 m3 m4 e x0 x1 x2 x3 x4
   go_upto_region 5 with fail
   go_cut [5] (fun s wc => BT wq name ins outs owns s wc)
   case first =>
    refine wp_region_held_drew (S := fun w' => w'.cell? ⟨p, f + i * 5, none⟩ = some (.string name) ∧ w'.cell? ⟨p, f + i * 5 + 1, none⟩ = some (.slice o1 ins.length c1) ∧ w'.cell? ⟨p, f + i * 5 + 2, none⟩ = some (.slice o2 outs.length c2) ∧ w'.cell? ⟨p, f + i * 5 + 3, none⟩ = some (.slice o3 owns.length c3) ∧ Below wq.heap.size wq w') (by kernel_rfl) (HS.out _ (Below.drew (Below.refl wq.heap.size wq))) (fun hHeld => ?_)
    refine wpAnyH_take (i := 0) (v := ?_) rfl (by kernel_rfl) (by kernel_rfl) (by kernel_rfl) (fun _ _ _ h => h) (Or.inl ⟨by rfl, ?_⟩) (by assumption) ?_
    rotate_left
    ·intro w hSw
     (try dsimp only at hSw)
     go_simp
     (try with_reducible rfl)
    (try simp only [Act.put, List.setIfInBounds_toArray, List.set_cons_zero, List.set_cons_succ])
    refine wpAnyH_take (i := 1) (v := ?_) rfl (by kernel_rfl) (by kernel_rfl) (by kernel_rfl) (fun _ _ _ h => h) (Or.inl ⟨by rfl, ?_⟩) (by assumption) ?_
    rotate_left
    ·intro w hSw
     (try dsimp only at hSw)
     go_simp
     (try with_reducible rfl)
    (try simp only [Act.put, List.setIfInBounds_toArray, List.set_cons_zero, List.set_cons_succ])
    refine wpAnyH_take (i := 2) (v := ?_) rfl (by kernel_rfl) (by kernel_rfl) (by kernel_rfl) (fun _ _ _ h => h) (Or.inl ⟨by rfl, ?_⟩) (by assumption) ?_
    rotate_left
    ·intro w hSw
     (try dsimp only at hSw)
     go_simp
     (try with_reducible rfl)
    (try simp only [Act.put, List.setIfInBounds_toArray, List.set_cons_zero, List.set_cons_succ])
    refine wpAnyH_take (i := 3) (v := ?_) rfl (by kernel_rfl) (by kernel_rfl) (by kernel_rfl) (fun _ _ _ h => h) (Or.inl ⟨by rfl, ?_⟩) (by assumption) ?_
    rotate_left
    ·intro w hSw
     (try dsimp only at hSw)
     go_simp
     (try with_reducible rfl)
    (try simp only [Act.put, List.setIfInBounds_toArray, List.set_cons_zero, List.set_cons_succ])
    refine wpAnyH_take (i := 4) (v := ?_) rfl (by kernel_rfl) (by kernel_rfl) (by kernel_rfl) (fun _ _ _ h => h) (Or.inl ⟨by rfl, ?_⟩) (by assumption) ?_
    rotate_left
    ·intro w hSw
     (try dsimp only at hSw)
     go_simp
     (try with_reducible rfl)
    (try simp only [Act.put, List.setIfInBounds_toArray, List.set_cons_zero, List.set_cons_succ])
    refine wpAnyH_take (i := 5) (v := ?_) rfl (by kernel_rfl) (by kernel_rfl) (by kernel_rfl) (fun _ _ _ h => h) (Or.inl ⟨by rfl, ?_⟩) (by assumption) ?_
    rotate_left
    ·intro w hSw
     (try dsimp only at hSw)
     go_simp
     (try with_reducible rfl)
    (try simp only [Act.put, List.setIfInBounds_toArray, List.set_cons_zero, List.set_cons_succ])
    refine wpAnyH_take (i := 6) (v := ?_) rfl (by kernel_rfl) (by kernel_rfl) (by kernel_rfl) (fun _ _ _ h => h) (Or.inl ⟨by rfl, ?_⟩) (by assumption) ?_
    rotate_left
    ·intro w hSw
     (try dsimp only at hSw)
     go_simp
     (try with_reducible rfl)
    (try simp only [Act.put, List.setIfInBounds_toArray, List.set_cons_zero, List.set_cons_succ])
    refine wpAnyH_take (i := 7) (v := ?_) rfl (by kernel_rfl) (by kernel_rfl) (by kernel_rfl) (fun _ _ _ h => h) (Or.inl ⟨by rfl, ?_⟩) (by assumption) ?_
    rotate_left
    ·intro w hSw
     (try dsimp only at hSw)
     go_simp
     (try with_reducible rfl)
    (try simp only [Act.put, List.setIfInBounds_toArray, List.set_cons_zero, List.set_cons_succ])
    refine wpAnyH_take (i := 8) (v := ?_) rfl (by kernel_rfl) (by kernel_rfl) (by kernel_rfl) (fun _ _ _ h => h) (Or.inl ⟨by rfl, ?_⟩) (by assumption) ?_
    rotate_left
    ·intro w hSw
     (try dsimp only at hSw)
     go_simp
     (try with_reducible rfl)
    (try simp only [Act.put, List.setIfInBounds_toArray, List.set_cons_zero, List.set_cons_succ])
    refine wpAnyH_take (i := 9) (v := ?_) rfl (by kernel_rfl) (by kernel_rfl) (by kernel_rfl) (fun _ _ _ h => h) (Or.inl ⟨by rfl, ?_⟩) (by assumption) ?_
    rotate_left
    ·intro w hSw
     (try dsimp only at hSw)
     go_simp
     (try with_reducible rfl)
    (try simp only [Act.put, List.setIfInBounds_toArray, List.set_cons_zero, List.set_cons_succ])
    refine wpAnyH_take (i := 11) (v := ?_) rfl (by kernel_rfl) (by kernel_rfl) (by kernel_rfl) (fun _ _ _ h => h) (Or.inl ⟨by rfl, ?_⟩) (by assumption) ?_
    rotate_left
    ·intro w hSw
     (try dsimp only at hSw)
     go_simp
     (try with_reducible rfl)
    (try simp only [Act.put, List.setIfInBounds_toArray, List.set_cons_zero, List.set_cons_succ])
    refine wpAnyH_take (i := 12) (v := ?_) rfl (by kernel_rfl) (by kernel_rfl) (by kernel_rfl) (fun _ _ _ h => h) (Or.inl ⟨by rfl, ?_⟩) (by assumption) ?_
    rotate_left
    ·intro w hSw
     (try dsimp only at hSw)
     go_simp
     (try with_reducible rfl)
    (try simp only [Act.put, List.setIfInBounds_toArray, List.set_cons_zero, List.set_cons_succ])
    refine wpAnyH_take (i := 13) (v := ?_) rfl (by kernel_rfl) (by kernel_rfl) (by kernel_rfl) (fun _ _ _ h => h) (Or.inl ⟨by rfl, ?_⟩) (by assumption) ?_
    rotate_left
    ·intro w hSw
     (try dsimp only at hSw)
     go_simp
     (try with_reducible rfl)
    (try simp only [Act.put, List.setIfInBounds_toArray, List.set_cons_zero, List.set_cons_succ])
    refine wpAnyH_take (i := 14) (v := ?_) rfl (by kernel_rfl) (by kernel_rfl) (by kernel_rfl) (fun _ _ _ h => h) (Or.inl ⟨by rfl, ?_⟩) (by assumption) ?_
    rotate_left
    ·intro w hSw
     (try dsimp only at hSw)
     go_simp
     (try with_reducible rfl)
    (try simp only [Act.put, List.setIfInBounds_toArray, List.set_cons_zero, List.set_cons_succ])
    refine wpAnyH_take (i := 15) (v := ?_) rfl (by kernel_rfl) (by kernel_rfl) (by kernel_rfl) (fun _ _ _ h => h) (Or.inl ⟨by rfl, ?_⟩) (by assumption) ?_
    rotate_left
    ·intro w hSw
     (try dsimp only at hSw)
     go_simp
     (try with_reducible rfl)
    (try simp only [Act.put, List.setIfInBounds_toArray, List.set_cons_zero, List.set_cons_succ])
    refine wpAnyH_take (i := 17) (v := ?_) rfl (by kernel_rfl) (by kernel_rfl) (by kernel_rfl) (fun _ _ _ h => h) (Or.inl ⟨by rfl, ?_⟩) (by assumption) ?_
    rotate_left
    ·intro w hSw
     (try dsimp only at hSw)
     go_simp
     (try with_reducible rfl)
    (try simp only [Act.put, List.setIfInBounds_toArray, List.set_cons_zero, List.set_cons_succ])
    refine wpAnyH_take (i := 18) (v := ?_) rfl (by kernel_rfl) (by kernel_rfl) (by kernel_rfl) (fun _ _ _ h => h) (Or.inl ⟨by rfl, ?_⟩) (by assumption) ?_
    rotate_left
    ·intro w hSw
     (try dsimp only at hSw)
     go_simp
     (try with_reducible rfl)
    (try simp only [Act.put, List.setIfInBounds_toArray, List.set_cons_zero, List.set_cons_succ])
    refine wpAnyH_take (i := 19) (v := ?_) rfl (by kernel_rfl) (by kernel_rfl) (by kernel_rfl) (fun _ _ _ h => h) (Or.inl ⟨by rfl, ?_⟩) (by assumption) ?_
    rotate_left
    ·intro w hSw
     (try dsimp only at hSw)
     go_simp
     (try with_reducible rfl)
    (try simp only [Act.put, List.setIfInBounds_toArray, List.set_cons_zero, List.set_cons_succ])
    refine wpAnyH_take (i := 20) (v := ?_) rfl (by kernel_rfl) (by kernel_rfl) (by kernel_rfl) (fun _ _ _ h => h) (Or.inl ⟨by rfl, ?_⟩) (by assumption) ?_
    rotate_left
    ·intro w hSw
     (try dsimp only at hSw)
     go_simp
     (try with_reducible rfl)
    (try simp only [Act.put, List.setIfInBounds_toArray, List.set_cons_zero, List.set_cons_succ])
    refine wpAnyH_take (i := 21) (v := ?_) rfl (by kernel_rfl) (by kernel_rfl) (by kernel_rfl) (fun _ _ _ h => h) (Or.inl ⟨by rfl, ?_⟩) (by assumption) ?_
    rotate_left
    ·intro w hSw
     (try dsimp only at hSw)
     go_simp
     (try with_reducible rfl)
    (try simp only [Act.put, List.setIfInBounds_toArray, List.set_cons_zero, List.set_cons_succ])
    refine wpAnyH_ready (rs := [10, 24]) (by kernel_rfl) (by simp) ?_
    refine AllReadyH.cons rfl (fun K hK => ?_) ?_
    ·-- the first call
     refine step_call rfl 50 #[.slice o1 ins.length c1] (by kernel_rfl) ?_
     refine (HVi.out _ (Below.drew (Below.refl wq.heap.size wq))).mono ?_
     rintro e v1 ⟨⟨so1, sc1, rfl, hr1⟩, hb1⟩
     have hq1 := Below.trans (Below.drew (Below.refl wq.heap.size wq)) (hb1.mono (Below.size (Below.drew (Below.refl wq.heap.size wq))))
     dsimp only
     refine hK.out _ _ ?_ (fun hHeld => ?_)
     ·exact HS.out _ hq1
     clear hK K
     (try simp only [Act.put, List.setIfInBounds_toArray, List.set_cons_zero, List.set_cons_succ])
     refine wpAnyH_ready (rs := [16, 24]) (by kernel_rfl) (by simp) ?_
     refine AllReadyH.cons rfl (fun K hK => ?_) ?_
     ·-- the second call
      refine step_call rfl 50 #[.slice o2 outs.length c2] (by kernel_rfl) ?_
      refine (HVo.out _ hq1).mono ?_
      rintro e v2 ⟨⟨so2, sc2, rfl, hr2⟩, hb2⟩
      have hq2 := Below.trans hq1 (hb2.mono (Below.size hq1))
      dsimp only
      have hc2 : Below v1.heap.size v1 v2 := hb2
      refine hK.out _ _ ?_ (fun hHeld => ?_)
      ·exact HS.out _ hq2
      clear hK K
      (try simp only [Act.put, List.setIfInBounds_toArray, List.set_cons_zero, List.set_cons_succ])
      refine wpAnyH_ready (rs := [22, 24]) (by kernel_rfl) (by simp) ?_
      refine AllReadyH.cons rfl (fun K hK => ?_) ?_
      ·-- the third call
       refine step_call rfl 50 #[.slice o3 owns.length c3] (by kernel_rfl) ?_
       refine (HVw.out _ hq2).mono ?_
       rintro e v3 ⟨⟨so3, sc3, rfl, hr3⟩, hb3⟩
       have hq3 := Below.trans hq2 (hb3.mono (Below.size hq2))
       dsimp only
       have hc3 : Below v2.heap.size v2 v3 := hb3
       refine hK.out _ _ ?_ (fun hHeld => ?_)
       ·exact HS.out _ hq3
       clear hK K
       (try simp only [Act.put, List.setIfInBounds_toArray, List.set_cons_zero, List.set_cons_succ])
       refine wpAnyH_take (i := 23) (v := ?_) rfl (by kernel_rfl) (by kernel_rfl) (by kernel_rfl) (fun _ _ _ h => h) (Or.inl ⟨by rfl, ?_⟩) (by assumption) ?_
       rotate_left
       ·intro w hSw
        (try dsimp only at hSw)
        go_simp
        (try with_reducible rfl)
       (try simp only [Act.put, List.setIfInBounds_toArray, List.set_cons_zero, List.set_cons_succ])
       refine wpAnyH_ready (rs := [24]) (by kernel_rfl) (by simp) ?_
       refine AllReadyH.cons rfl (fun K hK => ?_) AllReadyH.nil
       go_simp
       refine hK.out _ _ ?_ (fun hHeld => ?_)
       ·exact HS.out _ (Below.alloc hq3 (Below.size hq3) _)
       clear hK K
       (try simp only [Act.put, List.setIfInBounds_toArray, List.set_cons_zero, List.set_cons_succ])
       refine wpAnyH_ready (rs := [25]) (by kernel_rfl) (by simp) ?_
       refine AllReadyH.cons rfl (fun K hK => ?_) AllReadyH.nil
       go_simp
       refine hK.out _ _ ?_ (fun hHeld => ?_)
       ·exact HS.out _ (Below.alloc hq3 (Below.size hq3) _)
       clear hK K
       (try simp only [Act.put, List.setIfInBounds_toArray, List.set_cons_zero, List.set_cons_succ])
       refine wpAnyH_done (by kernel_rfl) ?_ _
       go_wp2
       go_meet
       case rel =>
        have z1 := hq1.size
        have z2 := hc2.size
        have z3 := hc3.size
        exact bt_late hq1 hc2 hc3 hr1 hr2 hr3 (by first | omega | exact Nat.le_refl _ | (simp; omega) | (simp; done) | (show _ ≤ (Array.push _ _).size; simp; omega) | (show _ ≤ (Array.push _ _).size; simp; done)) (by first | omega | exact Nat.le_refl _ | (simp; omega) | (simp; done) | (show _ ≤ (Array.push _ _).size; simp; omega) | (show _ ≤ (Array.push _ _).size; simp; done)) (by first | omega | exact Nat.le_refl _ | (simp; omega) | (simp; done) | (show _ ≤ (Array.push _ _).size; simp; omega) | (show _ ≤ (Array.push _ _).size; simp; done))
      ·refine AllReadyH.cons rfl (fun K hK => ?_) AllReadyH.nil
       go_simp
       refine hK.out _ _ ?_ (fun hHeld => ?_)
       ·exact HS.out _ (Below.alloc hq2 (Below.size hq2) _)
       clear hK K
       (try simp only [Act.put, List.setIfInBounds_toArray, List.set_cons_zero, List.set_cons_succ])
       refine wpAnyH_ready (rs := [22]) (by kernel_rfl) (by simp) ?_
       refine AllReadyH.cons rfl (fun K hK => ?_) AllReadyH.nil
       refine step_call rfl 50 #[.slice o3 owns.length c3] (by kernel_rfl) ?_
       refine (HVw.out _ (Below.alloc hq2 (Below.size hq2) tzNode)).mono ?_
       rintro e v3 ⟨⟨so3, sc3, rfl, hr3⟩, hb3⟩
       have hq3 := Below.trans (Below.alloc hq2 (Below.size hq2) tzNode) (hb3.mono (Below.size (Below.alloc hq2 (Below.size hq2) tzNode)))
       dsimp only
       have hz3 : v3.heap[v2.heap.size]? = some tzNode := row_keep hb3 (heap_alloc_new v2 tzNode)
       have hc3 : Below v2.heap.size v2 v3 := Below.trans (Below.alloc (Below.refl _ _) (Nat.le_refl _) _) (hb3.mono (by simp))
       refine hK.out _ _ ?_ (fun hHeld => ?_)
       ·exact HS.out _ hq3
       clear hK K
       (try simp only [Act.put, List.setIfInBounds_toArray, List.set_cons_zero, List.set_cons_succ])
       refine wpAnyH_take (i := 23) (v := ?_) rfl (by kernel_rfl) (by kernel_rfl) (by kernel_rfl) (fun _ _ _ h => h) (Or.inl ⟨by rfl, ?_⟩) (by assumption) ?_
       rotate_left
       ·intro w hSw
        (try dsimp only at hSw)
        go_simp
        (try with_reducible rfl)
       (try simp only [Act.put, List.setIfInBounds_toArray, List.set_cons_zero, List.set_cons_succ])
       obtain ⟨a0, a1, a2, a3, a4, af⟩ := blk5 hz3
       have af0 := af 0
       have af1 := af 1
       have af2 := af 2
       have af3 := af 3
       have af4 := af 4
       have hzl := lt_of_cell a0
       clear af
       refine wpAnyH_ready (rs := [25]) (by kernel_rfl) (by simp) ?_
       refine AllReadyH.cons rfl (fun K hK => ?_) AllReadyH.nil
       go_simp
       refine hK.out _ _ ?_ (fun hHeld => ?_)
       ·exact HS.out _ (below_set5 hq3 hq2.size)
       clear hK K
       (try simp only [Act.put, List.setIfInBounds_toArray, List.set_cons_zero, List.set_cons_succ])
       refine wpAnyH_done (by kernel_rfl) ?_ _
       go_wp2
       go_meet
       case rel =>
        have z1 := hq1.size
        have z2 := hc2.size
        have z3 := hc3.size
        have y3 := (Array.getElem?_eq_some_iff.1 hz3).1
        exact bt_early _ hz3 hq1 hc2 hc3 hr1 hr2 hr3 (by first | omega | exact Nat.le_refl _ | (simp; omega) | (simp; done) | (show _ ≤ (Array.push _ _).size; simp; omega) | (show _ ≤ (Array.push _ _).size; simp; done)) (by first | omega | exact Nat.le_refl _ | (simp; omega) | (simp; done) | (show _ ≤ (Array.push _ _).size; simp; omega) | (show _ ≤ (Array.push _ _).size; simp; done)) (by first | omega | exact Nat.le_refl _ | (simp; omega) | (simp; done) | (show _ ≤ (Array.push _ _).size; simp; omega) | (show _ ≤ (Array.push _ _).size; simp; done)) (by first | omega | exact Nat.le_refl _ | (simp; omega) | (simp; done) | (show _ ≤ (Array.push _ _).size; simp; omega) | (show _ ≤ (Array.push _ _).size; simp; done)) (by first | omega | exact Or.inl (by simp) | exact Or.inr (Nat.le_refl _) | exact Or.inl (by show _ < (Array.push _ _).size; simp)) (by first | omega | exact Or.inl (by simp) | exact Or.inr (Nat.le_refl _) | exact Or.inl (by show _ < (Array.push _ _).size; simp)) (by first | omega | exact Or.inl (by simp) | exact Or.inr (Nat.le_refl _) | exact Or.inl (by show _ < (Array.push _ _).size; simp))
     ·refine AllReadyH.cons rfl (fun K hK => ?_) AllReadyH.nil
      go_simp
      refine hK.out _ _ ?_ (fun hHeld => ?_)
      ·exact HS.out _ (Below.alloc hq1 (Below.size hq1) _)
      clear hK K
      (try simp only [Act.put, List.setIfInBounds_toArray, List.set_cons_zero, List.set_cons_succ])
      refine wpAnyH_ready (rs := [16]) (by kernel_rfl) (by simp) ?_
      refine AllReadyH.cons rfl (fun K hK => ?_) AllReadyH.nil
      refine step_call rfl 50 #[.slice o2 outs.length c2] (by kernel_rfl) ?_
      refine (HVo.out _ (Below.alloc hq1 (Below.size hq1) tzNode)).mono ?_
      rintro e v2 ⟨⟨so2, sc2, rfl, hr2⟩, hb2⟩
      have hq2 := Below.trans (Below.alloc hq1 (Below.size hq1) tzNode) (hb2.mono (Below.size (Below.alloc hq1 (Below.size hq1) tzNode)))
      dsimp only
      have hz2 : v2.heap[v1.heap.size]? = some tzNode := row_keep hb2 (heap_alloc_new v1 tzNode)
      have hc2 : Below v1.heap.size v1 v2 := Below.trans (Below.alloc (Below.refl _ _) (Nat.le_refl _) _) (hb2.mono (by simp))
      refine hK.out _ _ ?_ (fun hHeld => ?_)
      ·exact HS.out _ hq2
      clear hK K
      (try simp only [Act.put, List.setIfInBounds_toArray, List.set_cons_zero, List.set_cons_succ])
      refine wpAnyH_ready (rs := [22]) (by kernel_rfl) (by simp) ?_
      refine AllReadyH.cons rfl (fun K hK => ?_) AllReadyH.nil
      refine step_call rfl 50 #[.slice o3 owns.length c3] (by kernel_rfl) ?_
      refine (HVw.out _ hq2).mono ?_
      rintro e v3 ⟨⟨so3, sc3, rfl, hr3⟩, hb3⟩
      have hq3 := Below.trans hq2 (hb3.mono (Below.size hq2))
      dsimp only
      have hz3 := row_keep hb3 hz2
      have hc3 : Below v2.heap.size v2 v3 := hb3
      refine hK.out _ _ ?_ (fun hHeld => ?_)
      ·exact HS.out _ hq3
      clear hK K
      (try simp only [Act.put, List.setIfInBounds_toArray, List.set_cons_zero, List.set_cons_succ])
      refine wpAnyH_take (i := 23) (v := ?_) rfl (by kernel_rfl) (by kernel_rfl) (by kernel_rfl) (fun _ _ _ h => h) (Or.inl ⟨by rfl, ?_⟩) (by assumption) ?_
      rotate_left
      ·intro w hSw
       (try dsimp only at hSw)
       go_simp
       (try with_reducible rfl)
      (try simp only [Act.put, List.setIfInBounds_toArray, List.set_cons_zero, List.set_cons_succ])
      obtain ⟨a0, a1, a2, a3, a4, af⟩ := blk5 hz3
      have af0 := af 0
      have af1 := af 1
      have af2 := af 2
      have af3 := af 3
      have af4 := af 4
      have hzl := lt_of_cell a0
      clear af
      refine wpAnyH_ready (rs := [25]) (by kernel_rfl) (by simp) ?_
      refine AllReadyH.cons rfl (fun K hK => ?_) AllReadyH.nil
      go_simp
      refine hK.out _ _ ?_ (fun hHeld => ?_)
      ·exact HS.out _ (below_set5 hq3 hq1.size)
      clear hK K
      (try simp only [Act.put, List.setIfInBounds_toArray, List.set_cons_zero, List.set_cons_succ])
      refine wpAnyH_done (by kernel_rfl) ?_ _
      go_wp2
      go_meet
      case rel =>
       have z1 := hq1.size
       have z2 := hc2.size
       have z3 := hc3.size
       have y2 := (Array.getElem?_eq_some_iff.1 hz2).1
       have y3 := (Array.getElem?_eq_some_iff.1 hz3).1
       exact bt_early _ hz3 hq1 hc2 hc3 hr1 hr2 hr3 (by first | omega | exact Nat.le_refl _ | (simp; omega) | (simp; done) | (show _ ≤ (Array.push _ _).size; simp; omega) | (show _ ≤ (Array.push _ _).size; simp; done)) (by first | omega | exact Nat.le_refl _ | (simp; omega) | (simp; done) | (show _ ≤ (Array.push _ _).size; simp; omega) | (show _ ≤ (Array.push _ _).size; simp; done)) (by first | omega | exact Nat.le_refl _ | (simp; omega) | (simp; done) | (show _ ≤ (Array.push _ _).size; simp; omega) | (show _ ≤ (Array.push _ _).size; simp; done)) (by first | omega | exact Nat.le_refl _ | (simp; omega) | (simp; done) | (show _ ≤ (Array.push _ _).size; simp; omega) | (show _ ≤ (Array.push _ _).size; simp; done)) (by first | omega | exact Or.inl (by simp) | exact Or.inr (Nat.le_refl _) | exact Or.inl (by show _ < (Array.push _ _).size; simp)) (by first | omega | exact Or.inl (by simp) | exact Or.inr (Nat.le_refl _) | exact Or.inl (by show _ < (Array.push _ _).size; simp)) (by first | omega | exact Or.inl (by simp) | exact Or.inr (Nat.le_refl _) | exact Or.inl (by show _ < (Array.push _ _).size; simp))
    ·refine AllReadyH.cons rfl (fun K hK => ?_) AllReadyH.nil
     go_simp
     refine hK.out _ _ ?_ (fun hHeld => ?_)
     ·exact HS.out _ (Below.drew (Below.alloc (Below.refl wq.heap.size wq) (Nat.le_refl _) tzNode))
     clear hK K
     (try simp only [Act.put, List.setIfInBounds_toArray, List.set_cons_zero, List.set_cons_succ])
     refine wpAnyH_ready (rs := [10]) (by kernel_rfl) (by simp) ?_
     refine AllReadyH.cons rfl (fun K hK => ?_) AllReadyH.nil
     refine step_call rfl 50 #[.slice o1 ins.length c1] (by kernel_rfl) ?_
     refine (HVi.out _ (Below.drew (Below.alloc (Below.refl wq.heap.size wq) (Nat.le_refl _) tzNode))).mono ?_
     rintro e v1 ⟨⟨so1, sc1, rfl, hr1⟩, hb1⟩
     have hq1 := Below.trans (Below.drew (Below.alloc (Below.refl wq.heap.size wq) (Nat.le_refl _) tzNode)) (hb1.mono (Below.size (Below.drew (Below.alloc (Below.refl wq.heap.size wq) (Nat.le_refl _) tzNode))))
     dsimp only
     have hz1 : v1.heap[wq.heap.size]? = some tzNode := row_keep hb1 (drew_new wq tzNode)
     refine hK.out _ _ ?_ (fun hHeld => ?_)
     ·exact HS.out _ hq1
     clear hK K
     (try simp only [Act.put, List.setIfInBounds_toArray, List.set_cons_zero, List.set_cons_succ])
     refine wpAnyH_ready (rs := [16]) (by kernel_rfl) (by simp) ?_
     refine AllReadyH.cons rfl (fun K hK => ?_) AllReadyH.nil
     refine step_call rfl 50 #[.slice o2 outs.length c2] (by kernel_rfl) ?_
     refine (HVo.out _ hq1).mono ?_
     rintro e v2 ⟨⟨so2, sc2, rfl, hr2⟩, hb2⟩
     have hq2 := Below.trans hq1 (hb2.mono (Below.size hq1))
     dsimp only
     have hz2 := row_keep hb2 hz1
     have hc2 : Below v1.heap.size v1 v2 := hb2
     refine hK.out _ _ ?_ (fun hHeld => ?_)
     ·exact HS.out _ hq2
     clear hK K
     (try simp only [Act.put, List.setIfInBounds_toArray, List.set_cons_zero, List.set_cons_succ])
     refine wpAnyH_ready (rs := [22]) (by kernel_rfl) (by simp) ?_
     refine AllReadyH.cons rfl (fun K hK => ?_) AllReadyH.nil
     refine step_call rfl 50 #[.slice o3 owns.length c3] (by kernel_rfl) ?_
     refine (HVw.out _ hq2).mono ?_
     rintro e v3 ⟨⟨so3, sc3, rfl, hr3⟩, hb3⟩
     have hq3 := Below.trans hq2 (hb3.mono (Below.size hq2))
     dsimp only
     have hz3 := row_keep hb3 hz2
     have hc3 : Below v2.heap.size v2 v3 := hb3
     refine hK.out _ _ ?_ (fun hHeld => ?_)
     ·exact HS.out _ hq3
     clear hK K
     (try simp only [Act.put, List.setIfInBounds_toArray, List.set_cons_zero, List.set_cons_succ])
     refine wpAnyH_take (i := 23) (v := ?_) rfl (by kernel_rfl) (by kernel_rfl) (by kernel_rfl) (fun _ _ _ h => h) (Or.inl ⟨by rfl, ?_⟩) (by assumption) ?_
     rotate_left
     ·intro w hSw
      (try dsimp only at hSw)
      go_simp
      (try with_reducible rfl)
     (try simp only [Act.put, List.setIfInBounds_toArray, List.set_cons_zero, List.set_cons_succ])
     obtain ⟨a0, a1, a2, a3, a4, af⟩ := blk5 hz3
     have af0 := af 0
     have af1 := af 1
     have af2 := af 2
     have af3 := af 3
     have af4 := af 4
     have hzl := lt_of_cell a0
     clear af
     refine wpAnyH_ready (rs := [25]) (by kernel_rfl) (by simp) ?_
     refine AllReadyH.cons rfl (fun K hK => ?_) AllReadyH.nil
     go_simp
     refine hK.out _ _ ?_ (fun hHeld => ?_)
     ·exact HS.out _ (below_set5 hq3 (Nat.le_refl _))
     clear hK K
     (try simp only [Act.put, List.setIfInBounds_toArray, List.set_cons_zero, List.set_cons_succ])
     refine wpAnyH_done (by kernel_rfl) ?_ _
     go_wp2
     go_meet
     case rel =>
      have z1 := hq1.size
      have z2 := hc2.size
      have z3 := hc3.size
      have y1 := (Array.getElem?_eq_some_iff.1 hz1).1
      have y2 := (Array.getElem?_eq_some_iff.1 hz2).1
      have y3 := (Array.getElem?_eq_some_iff.1 hz3).1
      exact bt_early _ hz3 hq1 hc2 hc3 hr1 hr2 hr3 (by first | omega | exact Nat.le_refl _ | (simp; omega) | (simp; done) | (show _ ≤ (Array.push _ _).size; simp; omega) | (show _ ≤ (Array.push _ _).size; simp; done)) (by first | omega | exact Nat.le_refl _ | (simp; omega) | (simp; done) | (show _ ≤ (Array.push _ _).size; simp; omega) | (show _ ≤ (Array.push _ _).size; simp; done)) (by first | omega | exact Nat.le_refl _ | (simp; omega) | (simp; done) | (show _ ≤ (Array.push _ _).size; simp; omega) | (show _ ≤ (Array.push _ _).size; simp; done)) (by first | omega | exact Nat.le_refl _ | (simp; omega) | (simp; done) | (show _ ≤ (Array.push _ _).size; simp; omega) | (show _ ≤ (Array.push _ _).size; simp; done)) (by first | omega | exact Or.inl (by simp) | exact Or.inr (Nat.le_refl _) | exact Or.inl (by show _ < (Array.push _ _).size; simp)) (by first | omega | exact Or.inl (by simp) | exact Or.inr (Nat.le_refl _) | exact Or.inl (by show _ < (Array.push _ _).size; simp)) (by first | omega | exact Or.inl (by simp) | exact Or.inr (Nat.le_refl _) | exact Or.inl (by show _ < (Array.push _ _).size; simp))
   case rest =>
    clear HS HVi HVo HVw
    obtain ⟨nb, so1, sc1, so2, sc2, so3, sc3, rfl, hnb, hnl, hbc, HN, HR1, HR2, HR3⟩ := hcut
    rename World => wd
    obtain ⟨iv, hiv, hv0, hv1, hv2⟩ := info_parts Tryz.infoEq
    have hcz := hbc.size
    have hbd : Below w.heap.size w wd := hb.trans (hbc.mono hbz)
    go_wp2
    go_loopw [6] (fun t wr => ∃ (k : Nat) (qo : Option Addr) (qc : Nat) (cs : List Value), k ≤ qs.length ∧ t = .int .i64 k ∧ Mv nb wd wr ∧ Hid (wr.heap[nb]? = some (.cells #[.string name, .slice so1 ins.length sc1, .slice so2 outs.length sc2, .slice so3 owns.length sc3, .slice qo k qc] 70)) ∧ Hid (wr.ownsRow wd.heap.size 107 6 (.slice qo k qc) k cs) ∧ Hid (EqIn wr (fun k' => (k' < w.heap.size ∨ wq.heap.size ≤ k') ∧ k' ≠ nb ∧ (Value.slice qo k qc).ownBlock ≠ some k') (qs.take k) cs)) (fun t _ => qs.length - (intOf t).toNat)
    case atStart => exact ⟨0, none, 0, [], Nat.zero_le _, rfl, Mv.refl _ _, HN, World.ownsRow_nil _ _ _ _, .nil⟩
    case round =>
     clear HN
     obtain ⟨k, qo, qc, cs, hk, rfl, hmv, HNr, HOr, HQr⟩ := hrel
     have hmz := hmv.size
     have hbr : Below w.heap.size w wr := hbd.trans ⟨hmv.os, hmv.tape, hmv.output, hmv.size, fun k hk => hmv.block k (by omega) (by intro e; injection e with e; omega)⟩
     have hbrz := hbr.size
     obtain ⟨n0, n1, n2, n3, n4, nf⟩ := blk5 HNr.out
     have hnr : nb < wr.heap.size := lt_of_cell n0
     have X4r := below_cell' hbr X4.out
     by_cases hlk : k < qs.length
     ·obtain ⟨kind, ns, no, nc, op, x, tx, es, eo, ec, us, e, x0, x1, x2, x3, x4, x5, r1, r2, r3⟩ := HR.out.2.at hlk
      obtain ⟨p4, f4, rfl, _, g4⟩ := row_get HR.out.1 (by have := HR.out.1.1; omega)
      have i0' : (0 : Int) ≤ (k : Int) := by omega
      have i1' : (k : Int) < (qs.length : Int) := by omega
      obtain ⟨hfn, hfl, hff⟩ := hfqs k hlk _ _ _ _ _ _ e
      have W0 := g4 _ _ x0
      have W1 := g4 _ _ x1
      have W2 := g4 _ _ x2
      have W3 := g4 _ _ x3
      have W4 := g4 _ _ x4
      have W5 := g4 _ _ x5
      rw [← Nat.add_assoc] at W1 W2 W3 W4 W5
      have HS : Hid (∀ w', Below w.heap.size w w' → w'.cell? ⟨p, f + i * 5 + 4, none⟩ = some (.slice (some ⟨p4, f4, none⟩) qs.length c4) ∧ w'.cell? ⟨p4, f4 + k * 6, none⟩ = some (.string kind) ∧ w'.cell? ⟨p4, f4 + k * 6 + 1, none⟩ = some (.slice no ns.length nc) ∧ w'.cell? ⟨p4, f4 + k * 6 + 2, none⟩ = some (.string op) ∧ w'.cell? ⟨p4, f4 + k * 6 + 3, none⟩ = some (.int .i64 x) ∧ w'.cell? ⟨p4, f4 + k * 6 + 4, none⟩ = some (.string tx) ∧ w'.cell? ⟨p4, f4 + k * 6 + 5, none⟩ = some (.slice eo es.length ec) ∧ Below w.heap.size w w') := fun w' hb => ⟨below_cell' hb X4.out, below_cell' hb W0, below_cell' hb W1, below_cell' hb W2, below_cell' hb W3, below_cell' hb W4, below_cell' hb W5, hb⟩
      have HE : Hid (∀ w', Below w.heap.size w w' → Calls Tryz.prog 51 #[.agg #[.string op, .int .i64 x, .string tx, .slice eo es.length ec]] w' fun e w'' => (∃ so sc ys', e = .returned (.agg #[.string op, .int .i64 x, .string tx, .slice so es.length sc]) ∧ RowAt w'' (From w'.heap.size) 4 (.slice so es.length sc) es.length ys' ∧ ExIn w'' (From w'.heap.size) es ys') ∧ Below w'.heap.size w' w'') := fun w' hb => exprOf_any (SizeOf.sizeOf es + 1) op x tx es (by omega) hfl hff w' S eo ec us (r2.keep (Stays.below hb (fun k hk => hk))) (r3.keep (Stays.below hb (fun k hk => hk)))
      have HM : Hid (RowAt w S 1 (.slice no ns.length nc) ns.length (nameCells ns)) := r1
      have e2 : Hid (qs[k] = .mk kind 0 b0 [lst ns, .mk op x tx es]) := e
      have hn63 : k + 1 ≤ maxLen := by unfold maxLen; omega
      have hby : (k + 1) * 104 ≤ 140737488355328 := by omega
      have hrw : Hid (∀ j, (Value.slice qo k qc).ownBlock = some j → wd.heap.size ≤ j ∧ j < wr.heap.size) := fun j hj => ownsRow_block HOr.out hj
      clear g4 r1 r2 r3 hfl hff x0 x1 x2 x3 x4 x5 W0 W1 W2 W3 W4 W5 e
      go_upto_region 9 with fail
      go_cut [7] (fun s wc => BQ wr kind op tx x es s wc)
      case first =>
       refine wp_region_held_drew (S := fun w' => w'.cell? ⟨p, f + i * 5 + 4, none⟩ = some (.slice (some ⟨p4, f4, none⟩) qs.length c4) ∧ w'.cell? ⟨p4, f4 + k * 6, none⟩ = some (.string kind) ∧ w'.cell? ⟨p4, f4 + k * 6 + 1, none⟩ = some (.slice no ns.length nc) ∧ w'.cell? ⟨p4, f4 + k * 6 + 2, none⟩ = some (.string op) ∧ w'.cell? ⟨p4, f4 + k * 6 + 3, none⟩ = some (.int .i64 x) ∧ w'.cell? ⟨p4, f4 + k * 6 + 4, none⟩ = some (.string tx) ∧ w'.cell? ⟨p4, f4 + k * 6 + 5, none⟩ = some (.slice eo es.length ec) ∧ Below w.heap.size w w') (by kernel_rfl) (HS.out _ (Below.drew hbr)) (fun hHeld => ?_)
       refine wpAnyH_take (i := 0) (v := ?_) rfl (by kernel_rfl) (by kernel_rfl) (by kernel_rfl) (fun _ _ _ h => h) (Or.inl ⟨by rfl, ?_⟩) (by assumption) ?_
       rotate_left
       ·intro w hSw
        (try dsimp only at hSw)
        go_simp
        (try with_reducible rfl)
       (try simp only [Act.put, List.setIfInBounds_toArray, List.set_cons_zero, List.set_cons_succ])
       refine wpAnyH_take (i := 1) (v := ?_) rfl (by kernel_rfl) (by kernel_rfl) (by kernel_rfl) (fun _ _ _ h => h) (Or.inl ⟨by rfl, ?_⟩) (by assumption) ?_
       rotate_left
       ·intro w hSw
        (try dsimp only at hSw)
        go_simp
        (try with_reducible rfl)
       (try simp only [Act.put, List.setIfInBounds_toArray, List.set_cons_zero, List.set_cons_succ])
       refine wpAnyH_take (i := 2) (v := ?_) rfl (by kernel_rfl) (by kernel_rfl) (by kernel_rfl) (fun _ _ _ h => h) (Or.inl ⟨by rfl, ?_⟩) (by assumption) ?_
       rotate_left
       ·intro w hSw
        (try dsimp only at hSw)
        go_simp
        (try with_reducible rfl)
       (try simp only [Act.put, List.setIfInBounds_toArray, List.set_cons_zero, List.set_cons_succ])
       refine wpAnyH_take (i := 3) (v := ?_) rfl (by kernel_rfl) (by kernel_rfl) (by kernel_rfl) (fun _ _ _ h => h) (Or.inl ⟨by rfl, ?_⟩) (by assumption) ?_
       rotate_left
       ·intro w hSw
        (try dsimp only at hSw)
        go_simp
        (try with_reducible rfl)
       (try simp only [Act.put, List.setIfInBounds_toArray, List.set_cons_zero, List.set_cons_succ])
       refine wpAnyH_take (i := 4) (v := ?_) rfl (by kernel_rfl) (by kernel_rfl) (by kernel_rfl) (fun _ _ _ h => h) (Or.inl ⟨by rfl, ?_⟩) (by assumption) ?_
       rotate_left
       ·intro w hSw
        (try dsimp only at hSw)
        go_simp
        (try with_reducible rfl)
       (try simp only [Act.put, List.setIfInBounds_toArray, List.set_cons_zero, List.set_cons_succ])
       refine wpAnyH_take (i := 5) (v := ?_) rfl (by kernel_rfl) (by kernel_rfl) (by kernel_rfl) (fun _ _ _ h => h) (Or.inl ⟨by rfl, ?_⟩) (by assumption) ?_
       rotate_left
       ·intro w hSw
        (try dsimp only at hSw)
        go_simp
        (try with_reducible rfl)
       (try simp only [Act.put, List.setIfInBounds_toArray, List.set_cons_zero, List.set_cons_succ])
       refine wpAnyH_take (i := 6) (v := ?_) rfl (by kernel_rfl) (by kernel_rfl) (by kernel_rfl) (fun _ _ _ h => h) (Or.inl ⟨by rfl, ?_⟩) (by assumption) ?_
       rotate_left
       ·intro w hSw
        (try dsimp only at hSw)
        go_simp
        (try with_reducible rfl)
       (try simp only [Act.put, List.setIfInBounds_toArray, List.set_cons_zero, List.set_cons_succ])
       refine wpAnyH_take (i := 7) (v := ?_) rfl (by kernel_rfl) (by kernel_rfl) (by kernel_rfl) (fun _ _ _ h => h) (Or.inl ⟨by rfl, ?_⟩) (by assumption) ?_
       rotate_left
       ·intro w hSw
        (try dsimp only at hSw)
        go_simp
        (try with_reducible rfl)
       (try simp only [Act.put, List.setIfInBounds_toArray, List.set_cons_zero, List.set_cons_succ])
       refine wpAnyH_take (i := 8) (v := ?_) rfl (by kernel_rfl) (by kernel_rfl) (by kernel_rfl) (fun _ _ _ h => h) (Or.inl ⟨by rfl, ?_⟩) (by assumption) ?_
       rotate_left
       ·intro w hSw
        (try dsimp only at hSw)
        go_simp
        (try with_reducible rfl)
       (try simp only [Act.put, List.setIfInBounds_toArray, List.set_cons_zero, List.set_cons_succ])
       refine wpAnyH_take (i := 9) (v := ?_) rfl (by kernel_rfl) (by kernel_rfl) (by kernel_rfl) (fun _ _ _ h => h) (Or.inl ⟨by rfl, ?_⟩) (by assumption) ?_
       rotate_left
       ·intro w hSw
        (try dsimp only at hSw)
        go_simp
        (try with_reducible rfl)
       (try simp only [Act.put, List.setIfInBounds_toArray, List.set_cons_zero, List.set_cons_succ])
       refine wpAnyH_take (i := 10) (v := ?_) rfl (by kernel_rfl) (by kernel_rfl) (by kernel_rfl) (fun _ _ _ h => h) (Or.inl ⟨by rfl, ?_⟩) (by assumption) ?_
       rotate_left
       ·intro w hSw
        (try dsimp only at hSw)
        go_simp
        (try with_reducible rfl)
       (try simp only [Act.put, List.setIfInBounds_toArray, List.set_cons_zero, List.set_cons_succ])
       refine wpAnyH_take (i := 11) (v := ?_) rfl (by kernel_rfl) (by kernel_rfl) (by kernel_rfl) (fun _ _ _ h => h) (Or.inl ⟨by rfl, ?_⟩) (by assumption) ?_
       rotate_left
       ·intro w hSw
        (try dsimp only at hSw)
        go_simp
        (try with_reducible rfl)
       (try simp only [Act.put, List.setIfInBounds_toArray, List.set_cons_zero, List.set_cons_succ])
       refine wpAnyH_take (i := 12) (v := ?_) rfl (by kernel_rfl) (by kernel_rfl) (by kernel_rfl) (fun _ _ _ h => h) (Or.inl ⟨by rfl, ?_⟩) (by assumption) ?_
       rotate_left
       ·intro w hSw
        (try dsimp only at hSw)
        go_simp
        (try with_reducible rfl)
       (try simp only [Act.put, List.setIfInBounds_toArray, List.set_cons_zero, List.set_cons_succ])
       refine wpAnyH_take (i := 13) (v := ?_) rfl (by kernel_rfl) (by kernel_rfl) (by kernel_rfl) (fun _ _ _ h => h) (Or.inl ⟨by rfl, ?_⟩) (by assumption) ?_
       rotate_left
       ·intro w hSw
        (try dsimp only at hSw)
        go_simp
        (try with_reducible rfl)
       (try simp only [Act.put, List.setIfInBounds_toArray, List.set_cons_zero, List.set_cons_succ])
       refine wpAnyH_take (i := 14) (v := ?_) rfl (by kernel_rfl) (by kernel_rfl) (by kernel_rfl) (fun _ _ _ h => h) (Or.inl ⟨by rfl, ?_⟩) (by assumption) ?_
       rotate_left
       ·intro w hSw
        (try dsimp only at hSw)
        go_simp
        (try with_reducible rfl)
       (try simp only [Act.put, List.setIfInBounds_toArray, List.set_cons_zero, List.set_cons_succ])
       refine wpAnyH_take (i := 15) (v := ?_) rfl (by kernel_rfl) (by kernel_rfl) (by kernel_rfl) (fun _ _ _ h => h) (Or.inl ⟨by rfl, ?_⟩) (by assumption) ?_
       rotate_left
       ·intro w hSw
        (try dsimp only at hSw)
        go_simp
        (try with_reducible rfl)
       (try simp only [Act.put, List.setIfInBounds_toArray, List.set_cons_zero, List.set_cons_succ])
       refine wpAnyH_take (i := 16) (v := ?_) rfl (by kernel_rfl) (by kernel_rfl) (by kernel_rfl) (fun _ _ _ h => h) (Or.inl ⟨by rfl, ?_⟩) (by assumption) ?_
       rotate_left
       ·intro w hSw
        (try dsimp only at hSw)
        go_simp
        (try with_reducible rfl)
       (try simp only [Act.put, List.setIfInBounds_toArray, List.set_cons_zero, List.set_cons_succ])
       refine wpAnyH_take (i := 17) (v := ?_) rfl (by kernel_rfl) (by kernel_rfl) (by kernel_rfl) (fun _ _ _ h => h) (Or.inl ⟨by rfl, ?_⟩) (by assumption) ?_
       rotate_left
       ·intro w hSw
        (try dsimp only at hSw)
        go_simp
        (try with_reducible rfl)
       (try simp only [Act.put, List.setIfInBounds_toArray, List.set_cons_zero, List.set_cons_succ])
       refine wpAnyH_ready (rs := [18, 20]) (by kernel_rfl) (by simp) ?_
       refine AllReadyH.cons rfl (fun K hK => ?_) ?_
       ·-- the call first
        refine step_call rfl 51 #[.agg #[.string op, .int .i64 x, .string tx, .slice eo es.length ec]] (by kernel_rfl) ?_
        refine (HE.out _ (Below.drew hbr)).mono ?_
        rintro e v1 ⟨⟨so', sc', ys', rfl, hrow', hin'⟩, hb1⟩
        have hq1 := Below.trans (Below.drew hbr) (hb1.mono (Below.size (Below.drew hbr)))
        dsimp only
        refine hK.out _ _ ?_ (fun hHeld => ?_)
        ·exact HS.out _ hq1
        clear hK K
        (try simp only [Act.put, List.setIfInBounds_toArray, List.set_cons_zero, List.set_cons_succ])
        refine wpAnyH_take (i := 19) (v := ?_) rfl (by kernel_rfl) (by kernel_rfl) (by kernel_rfl) (fun _ _ _ h => h) (Or.inl ⟨by rfl, ?_⟩) (by assumption) ?_
        rotate_left
        ·intro w hSw
         (try dsimp only at hSw)
         go_simp
         (try with_reducible rfl)
        (try simp only [Act.put, List.setIfInBounds_toArray, List.set_cons_zero, List.set_cons_succ])
        refine wpAnyH_ready (rs := [20]) (by kernel_rfl) (by simp) ?_
        refine AllReadyH.cons rfl (fun K hK => ?_) AllReadyH.nil
        go_simp
        refine hK.out _ _ ?_ (fun hHeld => ?_)
        ·exact HS.out _ (Below.alloc hq1 (Below.size hq1) _)
        clear hK K
        (try simp only [Act.put, List.setIfInBounds_toArray, List.set_cons_zero, List.set_cons_succ])
        refine wpAnyH_ready (rs := [21]) (by kernel_rfl) (by simp) ?_
        refine AllReadyH.cons rfl (fun K hK => ?_) AllReadyH.nil
        go_simp
        refine hK.out _ _ ?_ (fun hHeld => ?_)
        ·exact HS.out _ (Below.alloc hq1 (Below.size hq1) _)
        clear hK K
        (try simp only [Act.put, List.setIfInBounds_toArray, List.set_cons_zero, List.set_cons_succ])
        refine wpAnyH_done (by kernel_rfl) ?_ _
        go_wp2
        go_meet
        case rel => exact bq_late hb1 hrow' hin'
       ·refine AllReadyH.cons rfl (fun K hK => ?_) AllReadyH.nil
        go_simp
        refine hK.out _ _ ?_ (fun hHeld => ?_)
        ·exact HS.out _ (Below.drew (Below.alloc hbr hbr.size tzEq))
        clear hK K
        (try simp only [Act.put, List.setIfInBounds_toArray, List.set_cons_zero, List.set_cons_succ])
        refine wpAnyH_ready (rs := [18]) (by kernel_rfl) (by simp) ?_
        refine AllReadyH.cons rfl (fun K hK => ?_) AllReadyH.nil
        refine step_call rfl 51 #[.agg #[.string op, .int .i64 x, .string tx, .slice eo es.length ec]] (by kernel_rfl) ?_
        refine (HE.out _ (Below.drew (Below.alloc hbr hbr.size tzEq))).mono ?_
        rintro e v1 ⟨⟨so', sc', ys', rfl, hrow', hin'⟩, hb1⟩
        have hq1 := Below.trans (Below.drew (Below.alloc hbr hbr.size tzEq)) (hb1.mono (Below.size (Below.drew (Below.alloc hbr hbr.size tzEq))))
        dsimp only
        have hz1 : v1.heap[wr.heap.size]? = some tzEq := row_keep hb1 (drew_new wr tzEq)
        refine hK.out _ _ ?_ (fun hHeld => ?_)
        ·exact HS.out _ hq1
        clear hK K
        (try simp only [Act.put, List.setIfInBounds_toArray, List.set_cons_zero, List.set_cons_succ])
        refine wpAnyH_take (i := 19) (v := ?_) rfl (by kernel_rfl) (by kernel_rfl) (by kernel_rfl) (fun _ _ _ h => h) (Or.inl ⟨by rfl, ?_⟩) (by assumption) ?_
        rotate_left
        ·intro w hSw
         (try dsimp only at hSw)
         go_simp
         (try with_reducible rfl)
        (try simp only [Act.put, List.setIfInBounds_toArray, List.set_cons_zero, List.set_cons_succ])
        obtain ⟨a0, a1, a2, a3, a4, a5, af⟩ := blk6 hz1
        have af0 := af 0
        have af1 := af 1
        have af2 := af 2
        have af3 := af 3
        have af4 := af 4
        have af5 := af 5
        have hzl := lt_of_cell a0
        clear af
        refine wpAnyH_ready (rs := [21]) (by kernel_rfl) (by simp) ?_
        refine AllReadyH.cons rfl (fun K hK => ?_) AllReadyH.nil
        go_simp
        refine hK.out _ _ ?_ (fun hHeld => ?_)
        ·exact HS.out _ (below_set6 hq1 hbr.size)
        clear hK K
        (try simp only [Act.put, List.setIfInBounds_toArray, List.set_cons_zero, List.set_cons_succ])
        refine wpAnyH_done (by kernel_rfl) ?_ _
        go_wp2
        go_meet
        case rel => exact bq_early hb1 hz1 hrow' hin'
      case rest =>
       clear HE
       obtain ⟨qb, so', sc', ys', rfl, hqb, hql, hbq, HQB, HRE, HEE⟩ := hcut
       rename World => wc
       obtain ⟨it, hit, hs0, hs1, hs2⟩ := info_parts Tryz.infoStr
       have hbq' : Below w.heap.size w wc := hbr.trans (hbq.mono hbrz)
       have hqz := hbq.size
       obtain ⟨X4q, _, W1q, _⟩ := HS.out wc hbq'
       have q1 := (blk6 HQB.out).2.1
       have qf1 := (blk6 HQB.out).2.2.2.2.2.2 1
       clear HS
       go_upto_region 10 with fail
       go_cut [79] (fun _ wc' => BR wr qb kind op tx x ns es so' sc' ys' wc')
       case first =>
        by_cases hz : ns.length = 0
        ·have hns : ns = [] := List.eq_nil_of_length_eq_zero hz
         subst hns
         simp only [List.length_nil] at W1q
         go_region_law (refine step_append_zero _ rfl (.tmp 69) (.tmp 78) 91 rfl 9 it Tryz.underlying91 hit (by simp [Act.eval]) no nc (by simp [Act.eval]) ?_)
         all_goals
          go_wp2
          go_meet
          case rel =>
           have St : Stays (fun j => wr.heap.size ≤ j ∧ j ≠ qb) (fun j => wr.heap.size ≤ j ∧ j ≠ qb) wc (wc.drew.setCell ⟨qb, 1, none⟩ (.slice none 0 0)) := fun j hj _ => ⟨hj, Below.heap_setCell _ _ _ _ hj.2⟩
           exact ⟨none, 0, by simpa using hql, (Below.drew hbq).setCell (by show wr.heap.size ≤ qb; omega) _, set_row (w := wc.drew) HQB.out, ⟨by simp [nameCells], by unfold maxLen; simp, none, 0, rfl, fun k x hx => by simp [nameCells] at hx⟩, HRE.out.keep St, HEE.out.keep St⟩
        ·obtain ⟨pn, fn, rfl, hpn, gn⟩ := row_get HM.out (by rw [nameCells_length]; omega)
         have hnw : Hid (∀ j u, (nameCells ns)[j]? = some u → wc.drew.cell? ((⟨pn, fn, none⟩ : Addr).add j) = some u) := fun j u hu => by
          have e : (⟨pn, fn, none⟩ : Addr).add j = ⟨pn, fn + j, none⟩ := by cases j <;> simp [Addr.add]
          rw [e]
          exact cell_keep (Below.drew hbq') (gn j u hu)
         have hone : Hid (∀ u ∈ nameCells ns, u.oneCell' = true) := fun u hu => by
          obtain ⟨e, _, rfl⟩ := List.mem_map.1 hu
          rfl
         clear gn
         go_region_law (refine step_append_lies _ rfl (.tmp 69) (.tmp 78) 91 rfl wc.heap.size 9 it _ 1 16 Tryz.underlying91 hit hs0 hs1 hs2 rfl (by omega) (.slice none 0 0) 0 [] (by simp [Act.eval]) (World.ownsRow_nil _ _ _ _) ⟨pn, fn, none⟩ ns.length nc (nameCells ns) (by simp [Act.eval]) (by rw [nameCells_length]; omega) hnw.out hone.out (by omega) (by unfold maxLen; omega) (by omega) (Nat.le_refl _) wc.heap.size rfl ?_; intro g2 cap w5 hown5 hgrow hat hlt5; have HB5 : Hid _ := heap_grown hgrow (b := qb) (fun hk => by cases hk) HQB.out; have c1' := (blk6 HB5.out).2.1; have cf1' := (blk6 HB5.out).2.2.2.2.2.2 1; have hqb5 : qb < w5.heap.size := lt_of_cell c1')
         all_goals
          go_wp2
          go_meet
          case rel =>
           have hB5 : Below wr.heap.size wr w5 := (Below.drew hbq).grown hgrow hqz (fun j hj => by cases hj)
           have hgq : qb ≠ g2 := by
            rcases hat with h | h
            ·cases h
            ·omega
           have St : Stays (fun j => wr.heap.size ≤ j ∧ j ≠ qb) (fun j => wr.heap.size ≤ j ∧ j ≠ qb) wc (w5.setCell ⟨qb, 1, none⟩ (.slice (some ⟨g2, 0, none⟩) (0 + ns.length) cap)) := fun j hj hl => ⟨hj, (Below.heap_setCell _ _ _ _ hj.2).trans (hgrow.block j hl (fun e => by cases e))⟩
           have StN : Stays (From wc.heap.size) (fun j => wr.heap.size ≤ j ∧ j ≠ qb) w5 (w5.setCell ⟨qb, 1, none⟩ (.slice (some ⟨g2, 0, none⟩) (0 + ns.length) cap)) := fun j hj hl => by
            unfold From at hj
            exact ⟨⟨by omega, by omega⟩, Below.heap_setCell _ _ _ _ (by show j ≠ qb; omega)⟩
           have hrow := (RowAt.of_owns hown5).keep StN
           have hset := set_row (k := 1) (v := .slice (some ⟨g2, 0, none⟩) (0 + ns.length) cap) HB5.out
           have hre := HRE.out.keep St
           have hee := HEE.out.keep St
           simp only [Nat.zero_add, List.nil_append] at hrow hset hre hee
           refine ⟨some ⟨g2, 0, none⟩, cap, by simpa using hqb5, hB5.setCell (by show wr.heap.size ≤ qb; omega) _, ?_, ?_, ?_, ?_⟩
           ·exact hset
           ·exact hrow
           ·exact hre
           ·exact hee
       case rest =>
        obtain ⟨mo, mc, hql2, hbq2, HQ2, HN2, HRE2, HEE2⟩ := hcut
        rename World => wc2
        clear HQB HRE HEE X4q W1q q1 qf1 hs0 hs1 hs2 hit
        have hz2 := hbq2.size
        have HNB : Hid _ := row_keep hbq2 HNr.out
        obtain ⟨b0', b1', b2', b3', b4', bf'⟩ := blk5 HNB.out
        have bf4 := bf' 4
        have hnl2 : nb < wc2.heap.size := lt_of_cell b0'
        obtain ⟨z0, z1, z2, z3, z4, z5, _⟩ := blk6 HQ2.out
        have HO4 : Hid _ := (ownsRow_same HOr.out hbq2).alloc (.cells #[.string kind, .slice mo ns.length mc, .string op, .int .i64 x, .string tx, .slice so' es.length sc'] 107)
        have HN4 : Hid _ := World.news_of_block (heap_alloc_new wc2 (.cells #[.string kind, .slice mo ns.length mc, .string op, .int .i64 x, .string tx, .slice so' es.length sc'] 107))
        have hq2' : Below w.heap.size w wc2 := hbr.trans (hbq2.mono hbrz)
        clear b0' b1' b2' b3' bf' n0 n1 n2 n3 n4 nf X4r
        go_wp2_with (at_builtin; refine wpList_append_lies _ rfl _ _ _ rfl wd.heap.size 107 iv _ 6 104 Tryz.underlying68 hiv hv0 hv1 hv2 rfl (by omega) _ k cs rfl HO4.out ⟨wc2.heap.size, 0, none⟩ 1 1 [.string kind, .slice mo ns.length mc, .string op, .int .i64 x, .string tx, .slice so' es.length sc'] rfl rfl HN4.out (by simp [Value.oneCell']) (by omega) hn63 hby (by simp <;> omega) (wc2.heap.size + 1) (by simp) ?_; intro g2 cap w5 hown5 hgrow hat hlt5; have HN5 : Hid _ := heap_grown hgrow (b := nb) (fun hk => by have := (hrw.out _ hk).1; omega) (alloc_row _ HNB.out); have c4 := (blk5 HN5.out).2.2.2.2.1; have cf := (blk5 HN5.out).2.2.2.2.2 4; have hnl5 : nb < w5.heap.size := lt_of_cell c4)
        have hat' : (Value.slice qo k qc).ownBlock = some g2 ∨ g2 = wc2.heap.size + 1 := hat
        have hgr' : (wc2.alloc (.cells #[.string kind, .slice mo ns.length mc, .string op, .int .i64 x, .string tx, .slice so' es.length sc'] 107)).grownBy w5 (Value.slice qo k qc).ownBlock := hgrow
        have hq5 : Below w.heap.size w w5 := (hq2'.alloc hq2'.size _).grown hgr' (by rw [World.size_alloc]; have := hq2'.size; omega) (fun j hj => by have := (hrw.out j hj).1; omega)
        have hz5 := hq5.size
        have hg2 : wd.heap.size ≤ g2 := by
         rcases hat' with h | h
         ·exact (hrw.out g2 h).1
         ·omega
        have hnw : w.heap.size ≤ nb := by omega
        have hBf : Below w.heap.size w (w5.setCell ⟨nb, 4, none⟩ (.slice (some ⟨g2, 0, none⟩) (k + 1) cap)) := hq5.setCell hnw _
        have StO : Stays (fun k' => (k' < w.heap.size ∨ wq.heap.size ≤ k') ∧ k' ≠ nb ∧ (Value.slice qo k qc).ownBlock ≠ some k') (fun k' => (k' < w.heap.size ∨ wq.heap.size ≤ k') ∧ k' ≠ nb ∧ (Value.slice (some ⟨g2, 0, none⟩) (k + 1) cap).ownBlock ≠ some k') wr (w5.setCell ⟨nb, 4, none⟩ (.slice (some ⟨g2, 0, none⟩) (k + 1) cap)) := grow_gen (n := k + 1) (cap := cap) hbq2 hgr' hat' (fun j hj _ => ⟨hj.2.1, hj.2.2, fun h => ⟨hj.1, hj.2.1, h⟩⟩)
        have StN : Stays (fun j => wr.heap.size ≤ j ∧ j ≠ qb) (fun k' => (k' < w.heap.size ∨ wq.heap.size ≤ k') ∧ k' ≠ nb ∧ (Value.slice (some ⟨g2, 0, none⟩) (k + 1) cap).ownBlock ≠ some k') wc2 (w5.setCell ⟨nb, 4, none⟩ (.slice (some ⟨g2, 0, none⟩) (k + 1) cap)) := grow_gen (n := k + 1) (cap := cap) (Below.refl _ _) hgr' hat' (fun j hj _ => by
         have hj' := hj.1
         exact ⟨by omega, fun h => by have := (hrw.out j h).2; omega, fun h => ⟨Or.inr (by omega), by omega, h⟩⟩)
        have hgz := hgr'.size
        simp only [World.size_alloc] at hgz
        have hmf : Mv nb wd (w5.setCell ⟨nb, 4, none⟩ (.slice (some ⟨g2, 0, none⟩) (k + 1) cap)) := ⟨(by first | exact hBf.os.trans hbd.os.symm | exact hbd.os.symm.trans hBf.os), (by first | exact hBf.tape.trans hbd.tape.symm | exact hbd.tape.symm.trans hBf.tape), (by first | exact hBf.output.trans hbd.output.symm | exact hbd.output.symm.trans hBf.output), by simp; omega, fun j hj hn => (Below.heap_setCell _ _ _ _ (fun e => hn (by rw [e]))).trans ((hgr'.block j (by simp; omega) (fun e => by have := (hrw.out _ e.symm).1; omega)).trans ((heap_alloc_old _ _ (by omega)).trans ((hbq2.block j (by omega)).trans (hmv.block j hj hn))))⟩
        have HQ5 : Hid (EqIn (w5.setCell ⟨nb, 4, none⟩ (.slice (some ⟨g2, 0, none⟩) (k + 1) cap)) (fun k' => (k' < w.heap.size ∨ wq.heap.size ≤ k') ∧ k' ≠ nb ∧ (Value.slice (some ⟨g2, 0, none⟩) (k + 1) cap).ownBlock ≠ some k') (qs.take (k + 1)) (cs ++ [.string kind, .slice mo ns.length mc, .string op, .int .i64 x, .string tx, .slice so' es.length sc'])) := by
         rw [List.take_succ_eq_append_getElem hlk, e2.out]
         exact (HQr.out.keep StO).append (.cons kind ns (.mk op x tx es) [] _ _ [] (HN2.out.keep StN) (.cons op x tx es [] _ ys' [] (HRE2.out.keep StN) (HEE2.out.keep StN) .nil) .nil)
        clear StO StN
        exact ⟨⟨k + 1, some ⟨g2, 0, none⟩, cap, _, by omega, by go_num, hmf, set_row HN5.out, ownsRow_mv hown5 (Mv.setAt nb 4 _ _) hnl, HQ5⟩, by simp [intOf]; omega⟩
     ·obtain rfl : k = qs.length := by omega
      have hQ := HQr.out
      rw [List.take_length] at hQ
      have HQ' : Hid _ := hQ
      have HRq : Hid (RowAt wr (From wd.heap.size) 6 (.slice qo qs.length qc) qs.length cs) := RowAt.of_owns HOr.out
      have hbqr : Below wq.heap.size wq wr := hbc.trans ⟨hmv.os, hmv.tape, hmv.output, hmv.size, fun k hk => hmv.block k (by omega) (by intro e; injection e with e; omega)⟩
      have HO6 : Hid _ := (ownsRow_same HO.out hbqr).alloc (.cells #[.string name, .slice so1 ins.length sc1, .slice so2 outs.length sc2, .slice so3 owns.length sc3, .slice qo qs.length qc] 70)
      have HN6 : Hid _ := World.news_of_block (heap_alloc_new wr (.cells #[.string name, .slice so1 ins.length sc1, .slice so2 outs.length sc2, .slice so3 owns.length sc3, .slice qo qs.length qc] 70))
      have hn63 : i + 1 ≤ maxLen := by unfold maxLen; omega
      have hby : (i + 1) * 112 ≤ 140737488355328 := by omega
      have hrw : Hid (∀ j, (Value.slice so i sc).ownBlock = some j → w.heap.size ≤ j ∧ j < wq.heap.size) := fun j hj => ownsRow_block HO.out hj
      have hqrz := hbqr.size
      clear hQ
      go_wp2_with (at_builtin; refine wpList_append_lies _ rfl _ _ _ rfl w.heap.size 70 i0 _ 5 112 Tryz.underlying39 hi0 hz0 hz1 hz2 rfl (by omega) _ i cells rfl HO6.out ⟨wr.heap.size, 0, none⟩ 1 1 [.string name, .slice so1 ins.length sc1, .slice so2 outs.length sc2, .slice so3 owns.length sc3, .slice qo qs.length qc] rfl rfl HN6.out (by simp [Value.oneCell']) (by omega) hn63 hby (by simp <;> omega) (wr.heap.size + 1) (by simp) ?_; intro g2 cap w5 hown5 hgrow hat hlt5)
      have hat' : (Value.slice so i sc).ownBlock = some g2 ∨ g2 = wr.heap.size + 1 := hat
      have hgr' : (wr.alloc (.cells #[.string name, .slice so1 ins.length sc1, .slice so2 outs.length sc2, .slice so3 owns.length sc3, .slice qo qs.length qc] 70)).grownBy w5 (Value.slice so i sc).ownBlock := hgrow
      have hB5 : Below w.heap.size w w5 := (hbr.alloc hbrz _).grown hgr' (by rw [World.size_alloc]; omega) (fun j hj => (hrw.out j hj).1)
      have StO : Stays (fun k => (Value.slice so i sc).ownBlock ≠ some k) (fun k => (Value.slice (some ⟨g2, 0, none⟩) (i + 1) cap).ownBlock ≠ some k) wq w5 := grow_g0 (n := i + 1) (cap := cap) hbqr hgr' hat' (fun j hj _ => ⟨hj, fun h => h⟩)
      have StR : ∀ {S' : Nat → Prop}, (∀ j, S' j → j < w.heap.size ∨ wq.heap.size ≤ j) → Stays S' (fun k => (Value.slice (some ⟨g2, 0, none⟩) (i + 1) cap).ownBlock ≠ some k) wr w5 := fun hs => grow_g0 (n := i + 1) (cap := cap) (Below.refl _ _) hgr' hat' (fun j hj _ => ⟨fun h => by have := hrw.out j h; have := hs j hj; omega, fun h => h⟩)
      have StM : Stays (fun k => wq.heap.size ≤ k ∧ k ≠ nb) (fun k => wq.heap.size ≤ k ∧ k ≠ nb) wd wr := Stays.mv hmv (fun k hk => ⟨hk.2, hk⟩)
      have HI5 : Hid (NdIn w5 (fun k => (Value.slice (some ⟨g2, 0, none⟩) (i + 1) cap).ownBlock ≠ some k) (l.take (i + 1)) (cells ++ [.string name, .slice so1 ins.length sc1, .slice so2 outs.length sc2, .slice so3 owns.length sc3, .slice qo qs.length qc])) := by
       rw [List.take_succ_eq_append_getElem hlt, e'.out]
       exact (HI.out.keep StO).append (.cons name ins outs owns qs [] _ _ _ _ cs [] ((HR1.out.keep StM).keep (StR (fun j hj => Or.inr hj.1))) ((HR2.out.keep StM).keep (StR (fun j hj => Or.inr hj.1))) ((HR3.out.keep StM).keep (StR (fun j hj => Or.inr hj.1))) (HRq.out.keep (StR (fun j hj => Or.inr (by unfold From at hj; omega)))) (HQ'.out.keep (StR (fun j hj => hj.1))) .nil)
      clear StO StR StM
      go_wp2
      exact ⟨⟨i + 1, some ⟨g2, 0, none⟩, cap, _, by omega, by go_num, rfl, hown5, HI5, hB5⟩, by simp [intOf]; omega⟩
  ·go_wp2
   go_ret
   obtain rfl : i = l.length := by omega
   have hI := HI.out
   rw [List.take_length] at hI
   exact ⟨⟨so, sc, cells, rfl, (RowAt.of_owns HO.out).keep (fun k hk _ => ⟨trivial, rfl⟩), hI.keep (fun k hk _ => ⟨trivial, rfl⟩)⟩, hb⟩
end Go.Proofs.YtgbpccipdcajgaaGreatDoor
