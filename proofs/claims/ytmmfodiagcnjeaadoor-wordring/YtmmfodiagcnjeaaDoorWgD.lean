/-
  package word: product BY CONTRACT.
-/
import Derived.Test.YtmmfodiagcnjeaaDoorWgC
import Derived.Test.YtmmfodiagcnjeaaDoorWdP
import Derived.Laws.CopyRow
namespace Go.Proofs.YtmmfodiagcnjeaaDoor
open Go.RowKit Go.Maps

theorem wpList_copy_by {P : Program} (w : World) {ops : Array Oper} {rest : List Oper} {o : Oper} {a : Act} {Q : Exit → Act → World → Prop} (hgd : o.guard = none) (d s : Operand) (t t' : TypeId)
    (ho : o.op = .call { callee := .builtin .copy, args := #[d, s], argTypes := #[t, t'] }) (v u : Value) (hd : a.eval d = v) (hs : a.eval s = u) {v' : Value} {w' : World}
    (hr : (Builtin.copy_ #[t, t'] o.type #[v, u]).run P w = .ok v' w') (h : wpList P ops Q rest (a.put o.dst v') w') : wpList P ops Q (o :: rest) a w := by
  refine wpList_plain hgd fun K hK => ?_
  unfold Oper.wp execOp
  simp only [ho, resolve, invoke, builtin, Sem.run_bind, Sem.run_pure, Result.andThen_ok, List.map_toArray, List.map_cons, List.map_nil, hd, hs, hr]
  exact hK _ _ h
theorem Tryd.sizeLit : (Tryd.prog.info? 34).map (·.size) = some 1 := by kernel_rfl
theorem size_setRow (w : World) (g : Nat) (cs : Array Value) : (w.setRow g cs).heap.size = w.heap.size := by simp [World.setRow]
theorem GrAt.setRow {G : Nat} {gs : List (Int × Int)} {ins : Nat} {F : Nat → Prop} {w : World} (h : GrAt G gs ins F w) {V : Nat} (hV : ¬ F V) (cs : Array Value) : GrAt G gs ins F (w.setRow V cs) :=
  h.keep (fun k hk => setRow_other w V k cs (fun e => hV (by rw [← e]; exact hk))) (fun _ hk => hk) (fun k hk => by rw [size_setRow]; exact h.2.2.1 k hk)
theorem Mvd.setRow {F F' : Nat → Prop} {w w' : World} (h : Mvd F F' w w') {V : Nat} (hV : w.heap.size ≤ V) (cs : Array Value) : Mvd F F' w (w'.setRow V cs) :=
  ⟨h.os, h.tape, h.output, by rw [size_setRow]; exact h.size, fun k hk hn => by rw [setRow_other _ _ _ _ (by omega)]; exact h.block k hk hn, fun k hk => by rw [size_setRow]; exact h.more k hk⟩
theorem cell_setRow {w : World} {V : Nat} {cs : Array Value} {p : Addr} (h : p.block ≠ V) : (w.setRow V cs).cell? p = w.cell? p := by
  simp only [World.cell?, setRow_other w V p.block cs h]
/-- A tail of a row. -/
theorem lits_tail {F : Nat → Prop} {w : World} {V i n c : Nat} {l : List Int} {t : TypeId} (hV : w.heap[V]? = some (.cells (rowI l) t (0, 0))) (hn : ¬ F V) (hl : l.length ≤ 1000) (hi : l.length = i + n) : LitsAt F w (.slice (some ⟨V, i, none⟩) n c) (l.drop i) := by
  have e : (l.drop i).length = n := by rw [List.length_drop]; omega
  refine ⟨by omega, some ⟨V, i, none⟩, c, by rw [e], fun k x hk => ⟨V, i, rfl, hn, ?_⟩⟩
  rw [cell_of_row w V _ _ t (0, 0) hV]
  rw [List.getElem?_drop] at hk
  exact rowI_get hk
/-- 'copy' into a row's tail. -/
theorem copy_tail {w : World} {V i n c Vh : Nat} {os hs : List Int} {t t' ty : TypeId} (hV : w.heap[V]? = some (.cells (rowI os) t (0, 0))) (hH : w.heap[Vh]? = some (.cells (rowI hs) t' (0, 0))) (ho : os.length = i + n) (hh : hs.length = n) :
    (Builtin.copy_ #[31, 31] ty #[.slice (some ⟨V, i, none⟩) n c, .slice (some ⟨Vh, 0, none⟩) n n]).run Tryd.prog w = .ok (goInt n) (w.setRow V (rowI (os.take i ++ hs))) := by
  have h := run_copy_row Tryd.prog w 31 31 ty 34 V i n c ⟨Vh, 0, none⟩ n n (rowI os) t (hs.map (Value.int .i64)) Tryd.underlying31 Tryd.sizeLit hV (by simp [hh])
    (fun j v hj => by
      have hadd : (⟨Vh, 0, none⟩ : Addr).add j = ⟨Vh, 0 + j, none⟩ := by unfold Addr.add; split <;> simp_all
      rw [hadd, Nat.zero_add, cell_of_row w Vh _ _ t' (0, 0) hH]
      rw [List.getElem?_map] at hj
      obtain ⟨x, hx, rfl⟩ := Option.map_eq_some_iff.1 hj
      exact rowI_get hx)
    (by simp [rowI, hh]; omega) (fun v hv => by obtain ⟨x, _, rfl⟩ := List.mem_map.1 hv; rfl)
  rw [h]
  have e : ((rowI os).toList.take i ++ hs.map (Value.int .i64) ++ (rowI os).toList.drop (i + (hs.map (Value.int .i64)).length)).toArray = rowI (os.take i ++ hs) := by
    have : os.drop (i + n) = [] := List.drop_eq_nil_of_le (by omega)
    simp [rowI, hh, List.map_append, List.map_take, ← List.map_drop, this]
  rw [e]
  simp [hh]
end Go.Proofs.YtmmfodiagcnjeaaDoor
