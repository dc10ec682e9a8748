/-
  BOOLS THAT ARE COPIED BY append; ints in a row that was made by append.
-/
import Derived.Test.YtpkgingjmgakbaaDoorP07
import Derived.Test.YtpkgingjmgakbaaDoorP06
import Derived.Stop.Asserts
import Derived.Handy
import Derived.Deep.Cut
namespace Go.Proofs.YtpkgingjmgakbaaDoor
open Go.RowKit Go.Maps

theorem run_append_zero {P : Program} (w : World) (t ty e : TypeId) (i : TypeInfo) (ht : P.underlying t = some (.slice e)) (hi : P.info? e = some i) (no : Option Addr) (nc : Nat) : (Builtin.append_ #[t, t] ty #[.slice none 0 0, .slice no 0 nc]).run P w = .ok (.slice none 0 0) w := by
  cases no <;> simp [Builtin.append_, run_underlying ht, sizeOf, typeInfo, hi, Builtin.lenOf, Builtin.firstCells, loadCells, loadCellsFrom]
/-- 'append(nil, in...)': the bools, in new memory. -/
theorem run_copy_bools (w : World) (ty : TypeId) (v : Value) (inp : List Bool) (h : BoolsAt w v inp) (hl : inp.length ≤ 1000) :
    ∃ o c w', (Builtin.append_ #[94, 94] ty #[.slice none 0 0, v]).run Tryd.prog w = .ok (.slice o inp.length c) w' ∧ BoolsAt w' (.slice o inp.length c) inp ∧ Below w.heap.size w w' := by
  obtain ⟨i0, hi0, hz0, hz1, hz2⟩ := info_parts Tryd.infoBool
  obtain ⟨hm, io, ic, rfl, hc⟩ := h
  by_cases h0 : inp.length = 0
  · have hr := run_append_zero (P := Tryd.prog) w 94 ty 4 i0 Tryd.underlying94 hi0 io ic
    refine ⟨none, 0, w, by rw [h0]; exact hr, ⟨hm, none, 0, rfl, fun k x hk => ?_⟩, Below.refl _ _⟩
    have := (List.getElem?_eq_some_iff.1 hk).1
    omega
  · obtain ⟨b, off, rfl, _⟩ := hc 0 _ (List.getElem?_eq_getElem (by omega))
    have hadd : ∀ j, (⟨b, off, none⟩ : Addr).add j = ⟨b, off + j, none⟩ := fun j => by unfold Addr.add; split <;> simp_all
    obtain ⟨g, cap, w', hr, h2, h3, h4, h5⟩ := run_append_lies (P := Tryd.prog) w 94 ty w.heap.size 4 i0 _ 1 1 Tryd.underlying94 hi0 hz0 hz1 hz2 rfl (by omega) (.slice none 0 0) 0 [] (World.ownsRow_nil _ _ _ _) ⟨b, off, none⟩ inp.length ic (inp.map Value.bool) (by simp)
      (fun j u hu => by
        rw [hadd]
        rw [List.getElem?_map] at hu
        obtain ⟨x, hx, rfl⟩ := Option.map_eq_some_iff.1 hu
        obtain ⟨b', off', e, hc'⟩ := hc j x hx
        obtain ⟨rfl, rfl⟩ : b = b' ∧ off = off' := by simpa using e
        exact hc')
      (fun u hu => by obtain ⟨x, _, rfl⟩ := List.mem_map.1 hu; rfl) (by omega) (by unfold maxLen; omega) (by omega) (Nat.le_refl _) _ rfl
    rw [Nat.zero_add] at hr h2
    rw [List.nil_append] at h2
    have hcs := h2.cells (g := g) rfl
    have hadd' : ∀ j, (⟨g, 0, none⟩ : Addr).add j = ⟨g, 0 + j, none⟩ := fun j => by unfold Addr.add; split <;> simp_all
    refine ⟨some ⟨g, 0, none⟩, cap, w', hr, ⟨hm, _, cap, rfl, fun k x hk => ⟨g, 0, rfl, ?_⟩⟩, ⟨h3.os, h3.tape, h3.output, h3.size, fun k hk => h3.block k hk (by simp [Value.ownBlock])⟩⟩
    rw [← hadd']
    exact hcs k _ (by simp [hk])
theorem wpList_copy_bools (w : World) {ops : Array Oper} {rest : List Oper} {o : Oper} {a : Act} {Q : Exit → Act → World → Prop} (hgd : o.guard = none) (s x : Operand)
    (ho : o.op = .call { callee := .builtin .append, args := #[s, x], argTypes := #[94, 94] }) (hs : a.eval s = .slice none 0 0) (v : Value) (hx : a.eval x = v) (inp : List Bool) (h : BoolsAt w v inp) (hl : inp.length ≤ 1000)
    (hK : ∀ o' c w', BoolsAt w' (.slice o' inp.length c) inp → Below w.heap.size w w' → wpList Tryd.prog ops Q rest (a.put o.dst (.slice o' inp.length c)) w') : wpList Tryd.prog ops Q (o :: rest) a w := by
  refine wpList_plain hgd fun K hK' => ?_
  obtain ⟨o', c, w', hr, h1, h2⟩ := run_copy_bools w o.type v inp h hl
  unfold Oper.wp execOp
  simp only [ho, resolve, invoke, builtin, Sem.run_bind, Sem.run_pure, Result.andThen_ok, List.map_toArray, List.map_cons, List.map_nil, hs, hx, hr]
  exact hK' _ _ (hK o' c w' h1 h2)
end Go.Proofs.YtpkgingjmgakbaaDoor

/-
  package word: bitOf, isInt, bitsOf, numberOf, Const BY CONTRACT; rows of ints that are filled.
-/
namespace Go.Proofs.YtpkgingjmgakbaaDoor
open Go.RowKit Go.Maps

theorem bits_low_any (a : Int) : bits .and .i64 a 1 = a % 2 := by
  have h1 : ((BitVec.ofInt 64 a).toNat : Int) = a % 18446744073709551616 := by simp [BitVec.toNat_ofInt]; omega
  show IntKind.i64.wrap ((BitVec.ofInt 64 a &&& BitVec.ofInt 64 1).toNat : Int) = _
  have h3 : (BitVec.ofInt 64 (1 : Int)).toNat = 1 := by decide
  rw [BitVec.toNat_and, h3, Nat.and_one_is_mod, IntKind.wrap_i64]
  omega
/-- An int that is one of the language's. -/
def isB (n : Int) : Bool := decide (-128 ≤ n) && decide (n < 128)
/-- A row of ints; what is there so far, and zeros. -/
def rowI (l : List Int) : Array Value := (l.map (Value.int .i64)).toArray
def rowP (os : List Int) (m : Nat) : List Int := os ++ List.replicate (m - os.length) 0
theorem rowI_get {l : List Int} {k : Nat} {x : Int} (h : l[k]? = some x) : (rowI l)[k]? = some (.int .i64 x) := by simp [rowI, h]
theorem rowI_set (l : List Int) (k : Nat) (x : Int) : (rowI l).setIfInBounds k (.int .i64 x) = rowI (l.set k x) := by simp [rowI, List.map_set]
theorem rowP_zero (m : Nat) : rowP [] m = List.replicate m 0 := by simp [rowP]
theorem rowP_all {os : List Int} {m : Nat} (h : os.length = m) : rowP os m = os := by simp [rowP, h]
theorem rowP_length {os : List Int} {m : Nat} (h : os.length ≤ m) : (rowP os m).length = m := by simp [rowP]; omega
theorem rowP_at {os : List Int} {m : Nat} (h : os.length < m) : (rowP os m)[os.length]? = some 0 := by
  unfold rowP
  rw [List.getElem?_append_right (Nat.le_refl _), Nat.sub_self, List.getElem?_replicate, if_pos (by omega)]
theorem rowP_set {os : List Int} {m : Nat} (h : os.length < m) (x : Int) : (rowP os m).set os.length x = rowP (os ++ [x]) m := by
  unfold rowP
  rw [List.set_append_right _ _ (Nat.le_refl _), Nat.sub_self]
  have : m - os.length = (m - (os ++ [x]).length) + 1 := by simp; omega
  rw [this, List.replicate_succ]
  simp
theorem rowP_store {w : World} {V : Nat} {os : List Int} {m : Nat} {t : TypeId} (hV : w.heap[V]? = some (.cells (rowI (rowP os m)) t (0, 0))) (h : os.length < m) (x : Int) :
    (w.setCell ⟨V, os.length, none⟩ (.int .i64 x)).heap[V]? = some (.cells (rowI (rowP (os ++ [x]) m)) t (0, 0)) := by
  rw [heap_setCell_at hV, rowI_set, rowP_set h]
theorem rowP_cell {w : World} {V : Nat} {os : List Int} {m : Nat} {t : TypeId} (hV : w.heap[V]? = some (.cells (rowI (rowP os m)) t (0, 0))) (h : os.length < m) : w.cell? ⟨V, os.length, none⟩ = some (.int .i64 0) := by
  rw [cell_of_row w V _ _ t (0, 0) hV]; exact rowI_get (rowP_at h)
theorem ints_of_row {w : World} {V : Nat} {l : List Int} {t : TypeId} {c : Nat} (hV : w.heap[V]? = some (.cells (rowI l) t (0, 0))) (hl : l.length ≤ maxLen) : IntsAt w (.slice (some ⟨V, 0, none⟩) l.length c) l :=
  ⟨hl, _, c, rfl, fun k x hk => ⟨V, 0, rfl, by rw [Nat.zero_add, cell_of_row w V _ _ t (0, 0) hV]; exact rowI_get hk⟩⟩
theorem bools_of_row {w : World} {V : Nat} {l : List Bool} {t : TypeId} {c : Nat} (hV : w.heap[V]? = some (.cells (rowB l) t (0, 0))) (hl : l.length ≤ maxLen) : BoolsAt w (.slice (some ⟨V, 0, none⟩) l.length c) l :=
  ⟨hl, _, c, rfl, fun k x hk => ⟨V, 0, rfl, by rw [Nat.zero_add, cell_of_row w V _ _ t (0, 0) hV]; exact rowB_get hk⟩⟩

/-- A number's word, its bits. -/
def wordI (n : Int) (m : Nat) : List Int := (List.range m).map (bitI n)
theorem wordI_succ (n : Int) (m : Nat) : wordI n (m + 1) = wordI n m ++ [bitI n m] := by simp [wordI, List.range_succ]
theorem wordI_length (n : Int) (m : Nat) : (wordI n m).length = m := by simp [wordI]
end Go.Proofs.YtpkgingjmgakbaaDoor

/-
  package types: (sign).apply BY CONTRACT: the types that parts give, or a panic.
-/
namespace Go.Proofs.YtpkgingjmgakbaaDoor
open Go.RowKit Go.Maps

/-- The kinds that an operator's parts must have: found so far (0: none). -/
def fitK : List Int → List Int → Int → Option Int
  | [], _, f => some f
  | k :: ks, ps, f =>
    match ps with
    | [] => none
    | p :: ps =>
      if k = 0 then (if f = 0 then fitK ks ps p else if p = f then fitK ks ps f else none)
      else if p = k then fitK ks ps f else none
/-- What is given. -/
def giveK (gives : List Int) (f : Int) : List Int := gives.map fun k => if k = 0 then f else k
theorem fitK_step {tk ps : List Int} {j : Nat} {k p : Int} (h1 : tk[j]? = some k) (h2 : ps[j]? = some p) (f : Int) :
    fitK (tk.drop j) (ps.drop j) f = if k = 0 then (if f = 0 then fitK (tk.drop (j + 1)) (ps.drop (j + 1)) p else if p = f then fitK (tk.drop (j + 1)) (ps.drop (j + 1)) f else none) else if p = k then fitK (tk.drop (j + 1)) (ps.drop (j + 1)) f else none := by
  have e1 : tk.drop j = k :: tk.drop (j + 1) := by
    obtain ⟨hl, rfl⟩ := List.getElem?_eq_some_iff.1 h1
    exact List.drop_eq_getElem_cons hl
  have e2 : ps.drop j = p :: ps.drop (j + 1) := by
    obtain ⟨hl, rfl⟩ := List.getElem?_eq_some_iff.1 h2
    exact List.drop_eq_getElem_cons hl
  rw [e1, e2]
  rfl
theorem Tryd.infoInt : (Tryd.prog.info? 3).map (fun i => (i.zero, i.size, i.bytes)) = some (some (.int .i64 0), 1, 8) := by kernel_rfl
theorem made_ints {w : World} {V n : Nat} (h : w.ownsRow 0 3 1 (.slice (some ⟨V, 0, none⟩) n n) n (madeCells (Value.int .i64 0).cells (n * 1)).toList) : w.heap[V]? = some (.cells (rowI (rowP [] n)) 3 (0, 0)) := by
  obtain ⟨_, h2⟩ := h
  rcases h2 with ⟨h2, _⟩ | ⟨g, cap, cur, e, _, hg, _, _, hs, ht⟩
  · cases h2
  · obtain ⟨rfl, rfl⟩ : V = g ∧ n = cap := by simpa using e
    rw [hg]
    have e1 : (madeCells (Value.int .i64 0).cells (n * 1)).toList = List.replicate n (.int .i64 0) := by rw [Nat.mul_one]; exact toList_madeCells_one _ _
    rw [e1] at ht
    have e2 : cur.toList = List.replicate n (.int .i64 0) := by rw [← ht, List.take_of_length_le (by simp [hs])]
    have : cur = rowI (rowP [] n) := by
      apply Array.toList_inj.1
      rw [e2]
      simp [rowI, rowP]
    rw [this]
/-- A wrong type is thrown. -/
def ThrewT (e : Ending) : Prop := e = .panicked [{ v := .iface 139 (.agg #[]), recovered := false }]
theorem IntsAt.keep {w w' : World} {v : Value} {l : List Int} (h : IntsAt w v l) (hb : Below w.heap.size w w') : IntsAt w' v l := by
  obtain ⟨hl, o, c, rfl, h⟩ := h
  refine ⟨hl, o, c, rfl, fun k x hk => ?_⟩
  obtain ⟨b, off, e, hc⟩ := h k x hk
  exact ⟨b, off, e, cell_keep hb hc⟩
theorem IntsAt.get {w : World} {o : Option Addr} {n c : Nat} {l : List Int} (h : IntsAt w (.slice o n c) l) {j : Nat} {x : Int} (hx : l[j]? = some x) : ∃ b off, o = some ⟨b, off, none⟩ ∧ w.cell? ⟨b, off + j, none⟩ = some (.int .i64 x) := by
  obtain ⟨_, o', c', e, h⟩ := h
  obtain ⟨b, off, rfl, hc⟩ := h j x hx
  obtain ⟨rfl, _, _⟩ : o = some ⟨b, off, none⟩ ∧ n = l.length ∧ c = c' := by simpa using e
  exact ⟨b, off, rfl, hc⟩
set_option maxRecDepth 100000 in
set_option maxHeartbeats 4000000 in
theorem apply_new (w : World) (o1 o2 op : Option Addr) (c1 c2 cp : Nat) (tk gv ps : List Int) (h1 : IntsAt w (.slice o1 tk.length c1) tk) (h2 : IntsAt w (.slice o2 gv.length c2) gv) (hp : IntsAt w (.slice op tk.length cp) ps) (hlen : ps.length = tk.length) (hs1 : tk.length ≤ 10) (hs2 : gv.length ≤ 10) :
    Calls Tryd.prog 64 #[.agg #[.slice o1 tk.length c1, .slice o2 gv.length c2], .slice op tk.length cp] w fun e w' => Below w.heap.size w w' ∧ ((∃ f V, fitK tk ps 0 = some f ∧ e = .returned (.slice (some ⟨V, 0, none⟩) gv.length gv.length) ∧ w'.heap[V]? = some (.cells (rowI (giveK gv f)) 3 (0, 0)) ∧ w.heap.size ≤ V) ∨ (fitK tk ps 0 = none ∧ ThrewT e)) := by
  obtain ⟨i0, hi0, hz0, hz1, hz2⟩ := info_parts Tryd.infoInt
  have hb1 : Below w.heap.size w (w.alloc (.cells #[.slice o1 tk.length c1, .slice o2 gv.length c2] 143)) := (Below.refl _ _).alloc (Nat.le_refl _) _
  have H1 : Hid (IntsAt (w.alloc (.cells #[.slice o1 tk.length c1, .slice o2 gv.length c2] 143)) (.slice o1 tk.length c1) tk) := h1.keep hb1
  have H2 : Hid (IntsAt (w.alloc (.cells #[.slice o1 tk.length c1, .slice o2 gv.length c2] 143)) (.slice o2 gv.length c2) gv) := h2.keep hb1
  have HP : Hid (IntsAt (w.alloc (.cells #[.slice o1 tk.length c1, .slice o2 gv.length c2] 143)) (.slice op tk.length cp) ps) := hp.keep hb1
  have HBY : Hid (i0.bytes * gv.length ≤ 281474976710656) := by unfold Hid; rw [hz2]; omega
  have HMX : Hid (gv.length ≤ maxLen) := by unfold Hid maxLen; omega
  have HI0 : Hid (Tryd.prog.info? 3 = some i0) := hi0
  have HZ0 : Hid (i0.zero = some (.int .i64 0)) := hz0
  have HZ1 : Hid (i0.size = 1) := hz1
  have HS1 : Hid (tk.length ≤ 10) := hs1
  have HS2 : Hid (gv.length ≤ 10) := hs2
  have HLN : Hid (ps.length = tk.length) := hlen
  have HB1 : Hid (Below w.heap.size w (w.alloc (.cells #[.slice o1 tk.length c1, .slice o2 gv.length c2] 143))) := hb1
  obtain ⟨w1, hw1⟩ : ∃ w1, w1 = w.alloc (.cells #[.slice o1 tk.length c1, .slice o2 gv.length c2] 143) := ⟨_, rfl⟩
  have z0 : w1.cell? ⟨w.heap.size, 0, none⟩ = some (.slice o1 tk.length c1) := by rw [hw1]; simp
  have z1 : w1.cell? ⟨w.heap.size, 0 + 1, none⟩ = some (.slice o2 gv.length c2) := by rw [hw1]; simp
  rw [← hw1] at H1 H2 HP HB1
  have HW : Hid (w.alloc (.cells #[.slice o1 tk.length c1, .slice o2 gv.length c2] 143) = w1) := hw1.symm
  clear h1 h2 hp hs1 hs2 hlen hb1 hi0 hz0 hz1 hz2 hw1
  go_enter Tryd.func64, Tryd.ntmps64
  go_upto_region 1 with fail
  rw [HW.out]
  clear HW
  go_wp2
  go_loop [5, 22] (fun fv t => ∃ (j : Nat) (f : Int), j ≤ tk.length ∧ t = .int .i64 j ∧ fv = .int .i64 f ∧ fitK tk ps 0 = fitK (tk.drop j) (ps.drop j) f) (fun _ t => tk.length - (intOf t).toNat)
  case atStart => exact ⟨0, 0, Nat.zero_le _, rfl, rfl, by simp⟩
  case round =>
    obtain ⟨j, f, hj, rfl, rfl, hfit⟩ := hrel
    by_cases hjl : j < tk.length
    · obtain ⟨k, hk⟩ : ∃ k, tk[j]? = some k := ⟨_, List.getElem?_eq_getElem hjl⟩
      obtain ⟨p, hp⟩ : ∃ p, ps[j]? = some p := ⟨_, List.getElem?_eq_getElem (by have := HLN.out; omega)⟩
      obtain ⟨b1, f1, rfl, q1⟩ := H1.out.get hk
      obtain ⟨b2, f2, rfl, q2⟩ := HP.out.get hp
      rw [fitK_step hk hp] at hfit
      have i0' : (0 : Int) ≤ (j : Int) := by omega
      have i1' : (j : Int) < (tk.length : Int) := by omega
      have N4 : Hid (wrap64 ((j : Int) + 1) = (j : Int) + 1) := by have := HS1.out; unfold Hid wrap64; omega
      have HJ : Hid (j < tk.length) := hjl
      have HFIT : Hid (fitK tk ps 0 = _) := hfit
      clear hj hjl hk hp hfit
      by_cases hk0 : k = 0
      · subst hk0
        by_cases hf0 : f = 0
        · subst hf0
          have E : Hid (fitK tk ps 0 = fitK (tk.drop (j + 1)) (ps.drop (j + 1)) p) := by unfold Hid; rw [HFIT.out, if_pos rfl, if_pos rfl]
          clear HFIT
          go_wp2
          exact ⟨⟨j + 1, p, HJ.out, by rw [N4.out]; rfl, rfl, E.out⟩, by rw [N4.out]; have := HJ.out; simp [intOf]; omega⟩
        · have df : (f == 0) = false := beq_eq_false_iff_ne.2 hf0
          by_cases hpf : p = f
          · subst hpf
            have E : Hid (fitK tk ps 0 = fitK (tk.drop (j + 1)) (ps.drop (j + 1)) p) := by unfold Hid; rw [HFIT.out, if_pos rfl, if_neg hf0, if_pos rfl]
            clear HFIT hf0
            go_wp2
            exact ⟨⟨j + 1, p, HJ.out, by rw [N4.out]; rfl, rfl, E.out⟩, by rw [N4.out]; have := HJ.out; simp [intOf]; omega⟩
          · have dp : (p == f) = false := beq_eq_false_iff_ne.2 hpf
            have dp' : (p != f) = true := by simp [hpf]
            have E : Hid (fitK tk ps 0 = none) := by unfold Hid; rw [HFIT.out, if_pos rfl, if_neg hf0, if_neg hpf]
            clear HFIT hf0 hpf
            go_wp2
            exact ⟨rfl, HB1.out, Or.inr ⟨E.out, rfl⟩⟩
      · have dk : (k == 0) = false := beq_eq_false_iff_ne.2 hk0
        by_cases hpk : p = k
        · subst hpk
          have E : Hid (fitK tk ps 0 = fitK (tk.drop (j + 1)) (ps.drop (j + 1)) f) := by unfold Hid; rw [HFIT.out, if_neg hk0, if_pos rfl]
          clear HFIT hk0
          go_wp2
          exact ⟨⟨j + 1, f, HJ.out, by rw [N4.out]; rfl, rfl, E.out⟩, by rw [N4.out]; have := HJ.out; simp [intOf]; omega⟩
        · have dp : (p == k) = false := beq_eq_false_iff_ne.2 hpk
          have dp' : (p != k) = true := by simp [hpk]
          have E : Hid (fitK tk ps 0 = none) := by unfold Hid; rw [HFIT.out, if_neg hk0, if_neg hpk]
          clear HFIT hk0 hpk
          go_wp2
          exact ⟨rfl, HB1.out, Or.inr ⟨E.out, rfl⟩⟩
    · obtain rfl : j = tk.length := by omega
      rw [List.drop_length] at hfit
      have E : Hid (fitK tk ps 0 = some f) := by unfold Hid; rw [hfit]; rfl
      clear hfit hj hjl
      go_wp2_with (first
        | (at_make; refine wpList_make_full _ rfl _ _ 22 rfl 0 3 i0 _ 1 Tryd.underlying22 HI0.out HZ0.out HZ1.out .i64 .i64 _ _ gv.length rfl rfl (by simp) (by simp) HBY.out HMX.out (Nat.zero_le _) ?_; intro w2 hown2 hgr2; have hbb : Below w1.heap.size w1 w2 := ⟨hgr2.os, hgr2.tape, hgr2.output, hgr2.size, fun k hk => hgr2.block k hk (by simp)⟩; have z2 := cell_keep hbb z1)
        | go_in)
      have hV2 := made_ints hown2
      have HB2 : Hid (Below w1.heap.size w1 w2) := hbb
      have HV2 : Hid (w2.heap[w1.heap.size]? = some (.cells (rowI (rowP (giveK (gv.take 0) f) gv.length)) 3 (0, 0))) := hV2
      clear hown2 hgr2 hV2 hbb
      go_loopw [52] (fun t wr => ∃ j : Nat, j ≤ gv.length ∧ t = .int .i64 j ∧ wr.heap[w1.heap.size]? = some (.cells (rowI (rowP (giveK (gv.take j) f) gv.length)) 3 (0, 0)) ∧ Below w1.heap.size w1 wr) (fun t _ => gv.length - (intOf t).toNat)
      case atStart => exact ⟨0, Nat.zero_le _, rfl, HV2.out, HB2.out⟩
      case round =>
        obtain ⟨j, hj, rfl, hrow, hb⟩ := hrel
        have HW : Hid (Below w1.heap.size w1 wr) := hb
        by_cases hjl : j < gv.length
        · obtain ⟨k, hk⟩ : ∃ k, gv[j]? = some k := ⟨_, List.getElem?_eq_getElem hjl⟩
          obtain ⟨b1, f1, rfl, q1⟩ := H2.out.get hk
          have q2 := cell_keep hb q1
          have hlj : (giveK (gv.take j) f).length = j := by simp [giveK]; omega
          have hlt : (giveK (gv.take j) f).length < gv.length := by omega
          have c0 := rowP_cell hrow hlt
          have f0 : wr.frozen? ⟨w1.heap.size, j, none⟩ = false := frozen_row hrow
          have hst := rowP_store hrow hlt (if k = 0 then f else k)
          rw [hlj] at c0 hst
          have e2 : giveK (gv.take j) f ++ [if k = 0 then f else k] = giveK (gv.take (j + 1)) f := by unfold giveK; rw [List.take_add_one, hk]; simp
          rw [e2] at hst
          have HST : Hid _ := hst
          have i0' : (0 : Int) ≤ (j : Int) := by omega
          have i1' : (j : Int) < (gv.length : Int) := by omega
          have N4 : Hid (wrap64 ((j : Int) + 1) = (j : Int) + 1) := by have := HS2.out; unfold Hid wrap64; omega
          have HJ : Hid (j < gv.length) := hjl
          clear hj hrow hb hjl hk hlj hlt hst e2 q1
          by_cases hk0 : k = 0
          · subst hk0
            rw [if_pos rfl] at HST
            go_wp2
            exact ⟨⟨j + 1, HJ.out, by rw [N4.out]; rfl, HST.out, HW.out.setCell (Nat.le_refl _) _⟩, by rw [N4.out]; have := HJ.out; simp [intOf]; omega⟩
          · have dk : (k == 0) = false := beq_eq_false_iff_ne.2 hk0
            rw [if_neg hk0] at HST
            clear hk0
            go_wp2
            exact ⟨⟨j + 1, HJ.out, by rw [N4.out]; rfl, HST.out, HW.out.setCell (Nat.le_refl _) _⟩, by rw [N4.out]; have := HJ.out; simp [intOf]; omega⟩
        · obtain rfl : j = gv.length := by omega
          rw [List.take_length, rowP_all (by simp [giveK])] at hrow
          have HR' : Hid _ := hrow
          clear hrow hb
          go_wp2
          go_ret
          exact ⟨HB1.out.trans (HW.out.mono HB1.out.size), Or.inl ⟨f, w1.heap.size, E.out, rfl, HR'.out, HB1.out.size⟩⟩
theorem apply_any (w : World) (o1 o2 op : Option Addr) (c1 c2 cp : Nat) (tk gv ps : List Int) (h1 : IntsAt w (.slice o1 tk.length c1) tk) (h2 : IntsAt w (.slice o2 gv.length c2) gv) (hp : IntsAt w (.slice op tk.length cp) ps) (hlen : ps.length = tk.length) (hs1 : tk.length ≤ 10) (hs2 : gv.length ≤ 10) :
    Calls Tryd.prog 64 #[.agg #[.slice o1 tk.length c1, .slice o2 gv.length c2], .slice op tk.length cp] w fun e w' => Below w.heap.size w w' ∧ ((∃ f V, fitK tk ps 0 = some f ∧ e = .returned (.slice (some ⟨V, 0, none⟩) gv.length gv.length) ∧ w'.heap[V]? = some (.cells (rowI (giveK gv f)) 3 (0, 0))) ∨ (fitK tk ps 0 = none ∧ ThrewT e)) :=
  (apply_new w o1 o2 op c1 c2 cp tk gv ps h1 h2 hp hlen hs1 hs2).mono (fun _ _ h => ⟨h.1, h.2.elim (fun ⟨f, V, a, b, c, _⟩ => .inl ⟨f, V, a, b, c⟩) .inr⟩)
end Go.Proofs.YtpkgingjmgakbaaDoor
