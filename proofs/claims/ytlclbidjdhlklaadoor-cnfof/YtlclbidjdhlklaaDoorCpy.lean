/-
  BOOLS THAT ARE COPIED BY append; ints in a row that was made by append.
-/
import Derived.Test.YtlclbidjdhlklaaDoorGrJ
namespace Go.Proofs.YtlclbidjdhlklaaDoor
open Go.RowKit Go.Maps

theorem run_append_zero {P : Program} (w : World) (t ty e : TypeId) (i : TypeInfo) (ht : P.underlying t = some (.slice e)) (hi : P.info? e = some i) (no : Option Addr) (nc : Nat) : (Builtin.append_ #[t, t] ty #[.slice none 0 0, .slice no 0 nc]).run P w = .ok (.slice none 0 0) w := by
  cases no <;> simp [Builtin.append_, run_underlying ht, sizeOf, typeInfo, hi, Builtin.lenOf, Builtin.firstCells, loadCells, loadCellsFrom]
/-- 'append(nil, in...)': the bools, in new memory. -/
theorem run_copy_bools (w : World) (ty : TypeId) (v : Value) (inp : List Bool) (h : BoolsAt w v inp) (hl : inp.length ≤ 1000) :
    ∃ o c w', (Builtin.append_ #[68, 68] ty #[.slice none 0 0, v]).run Tryd.prog w = .ok (.slice o inp.length c) w' ∧ BoolsAt w' (.slice o inp.length c) inp ∧ Below w.heap.size w w' := by
  obtain ⟨i0, hi0, hz0, hz1, hz2⟩ := info_parts Tryd.infoBool
  obtain ⟨hm, io, ic, rfl, hc⟩ := h
  by_cases h0 : inp.length = 0
  · have hr := run_append_zero (P := Tryd.prog) w 68 ty 4 i0 Tryd.underlying68 hi0 io ic
    refine ⟨none, 0, w, by rw [h0]; exact hr, ⟨hm, none, 0, rfl, fun k x hk => ?_⟩, Below.refl _ _⟩
    have := (List.getElem?_eq_some_iff.1 hk).1
    omega
  · obtain ⟨b, off, rfl, _⟩ := hc 0 _ (List.getElem?_eq_getElem (by omega))
    have hadd : ∀ j, (⟨b, off, none⟩ : Addr).add j = ⟨b, off + j, none⟩ := fun j => by unfold Addr.add; split <;> simp_all
    obtain ⟨g, cap, w', hr, h2, h3, h4, h5⟩ := run_append_lies (P := Tryd.prog) w 68 ty w.heap.size 4 i0 _ 1 1 Tryd.underlying68 hi0 hz0 hz1 hz2 rfl (by omega) (.slice none 0 0) 0 [] (World.ownsRow_nil _ _ _ _) ⟨b, off, none⟩ inp.length ic (inp.map Value.bool) (by simp)
      (fun j u hu => by
        rw [hadd]
        rw [List.getElem?_map] at hu
        obtain ⟨x, hx, rfl⟩ := Option.map_eq_some_iff.1 hu
        obtain ⟨b', off', e, hc'⟩ := hc j x hx
        obtain ⟨rfl, rfl⟩ : b = b' ∧ off = off' := by simpa using e
        exact hc')
      (fun u hu => by obtain ⟨x, _, rfl⟩ := List.mem_map.1 hu; rfl) (by omega) (by unfold maxLen; omega) (by omega) (Nat.le_refl _) _ rfl
    rw [Nat.zero_add] at hr h2
    rw [List.nil_append] at h2
    have hcs := h2.cells (g := g) rfl
    have hadd' : ∀ j, (⟨g, 0, none⟩ : Addr).add j = ⟨g, 0 + j, none⟩ := fun j => by unfold Addr.add; split <;> simp_all
    refine ⟨some ⟨g, 0, none⟩, cap, w', hr, ⟨hm, _, cap, rfl, fun k x hk => ⟨g, 0, rfl, ?_⟩⟩, ⟨h3.os, h3.tape, h3.output, h3.size, fun k hk => h3.block k hk (by simp [Value.ownBlock])⟩⟩
    rw [← hadd']
    exact hcs k _ (by simp [hk])
theorem wpList_copy_bools (w : World) {ops : Array Oper} {rest : List Oper} {o : Oper} {a : Act} {Q : Exit → Act → World → Prop} (hgd : o.guard = none) (s x : Operand)
    (ho : o.op = .call { callee := .builtin .append, args := #[s, x], argTypes := #[68, 68] }) (hs : a.eval s = .slice none 0 0) (v : Value) (hx : a.eval x = v) (inp : List Bool) (h : BoolsAt w v inp) (hl : inp.length ≤ 1000)
    (hK : ∀ o' c w', BoolsAt w' (.slice o' inp.length c) inp → Below w.heap.size w w' → wpList Tryd.prog ops Q rest (a.put o.dst (.slice o' inp.length c)) w') : wpList Tryd.prog ops Q (o :: rest) a w := by
  refine wpList_plain hgd fun K hK' => ?_
  obtain ⟨o', c, w', hr, h1, h2⟩ := run_copy_bools w o.type v inp h hl
  unfold Oper.wp execOp
  simp only [ho, resolve, invoke, builtin, Sem.run_bind, Sem.run_pure, Result.andThen_ok, List.map_toArray, List.map_cons, List.map_nil, hs, hx, hr]
  exact hK' _ _ (hK o' c w' h1 h2)
theorem Tryd.infoLit : (Tryd.prog.info? 30).map (fun i => (i.zero, i.size, i.bytes)) = some (some (.int .i64 0), 1, 8) := by kernel_rfl
theorem ints_of_owns {w : World} {base n : Nat} {o : Option Addr} {c : Nat} {l : List Int} (h : w.ownsRow base 30 1 (.slice o n c) n (l.map (Value.int .i64))) (hn : l.length = n) (hm : n ≤ maxLen) : IntsAt w (.slice o n c) l := by
  subst hn
  refine ⟨hm, o, c, rfl, fun k x hk => ?_⟩
  have hlt := (List.getElem?_eq_some_iff.1 hk).1
  obtain ⟨g, cap, e, _, _⟩ := h.form (by omega)
  obtain ⟨rfl, rfl⟩ : o = some ⟨g, 0, none⟩ ∧ c = cap := by simpa using e
  have hadd' : ∀ j, (⟨g, 0, none⟩ : Addr).add j = ⟨g, 0 + j, none⟩ := fun j => by unfold Addr.add; split <;> simp_all
  refine ⟨g, 0, rfl, ?_⟩
  rw [← hadd']
  exact h.cells (g := g) rfl k _ (by simp [hk])
end Go.Proofs.YtlclbidjdhlklaaDoor
