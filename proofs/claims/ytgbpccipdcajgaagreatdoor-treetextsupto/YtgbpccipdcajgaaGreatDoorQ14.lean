/-
  package tree's WRITER: its builder of text, that lies in it: Len, WriteString, String BY THEIR CONTRACTS.
-/
import Derived.Test.YtgbpccipdcajgaaGreatDoorQ09
import Derived.Lib.Builder
import Derived.Lib.AppendStr
import Derived.Lib.UnsafeStr
import Derived.Lib.OthersKept
import Derived.Laws.Externs
import Derived.WalkKit
import Derived.Shelf.RegionOpenPlain
import Derived.Deep.QuietTactic
import Derived.BigQuiet
import Derived.WalkSmall
import Derived.Test.YtgbpccipdcajgaaGreatDoorQ08
import Derived.Test.YtgbpccipdcajgaaGreatDoorQ06
import Derived.Test.YtgbpccipdcajgaaGreatDoorQ11
import Derived.Test.YtgbpccipdcajgaaGreatDoorQ05
import Derived.Test.YtgbpccipdcajgaaGreatDoorQ10
import Derived.Test.YtgbpccipdcajgaaGreatDoorQ12
import Derived.Deep.AppendLies
namespace Go.Proofs.YtgbpccipdcajgaaGreatDoor
open Go.RowKit
attribute [local go_sem ↓] Go.wp_at_zero Go.wp_at_succ
def WrAt (B b : Nat) (p : Value) (bs : List Value) (d : Nat) (w : World) : Prop :=
 B ≤ b ∧ ∃ v, w.heap[b]? = some (.cells #[p, v, .int .i64 6000, .int .i64 d] 116 (0, 0)) ∧ w.ownsRow B 5 1 v bs.length bs ∧ v.ownBlock ≠ some b
def Wr (B b : Nat) (bs : List Value) (d : Nat) (w : World) : Prop := WrAt B b (.pointer none) bs d w ∨ WrAt B b (.pointer (some ⟨b, 0, none⟩)) bs d w
abbrev Kept (b : Nat) (w w' : World) : Prop := Lib.OthersKept 5 (some b) w w'
theorem WrAt.lt {B b : Nat} {p : Value} {bs : List Value} {d : Nat} {w : World} (h : WrAt B b p bs d w) : b < w.heap.size := by
 obtain ⟨_, v, hb, _⟩ := h
 exact (Array.getElem?_eq_some_iff.1 hb).1
theorem Wr.lt {B b : Nat} {bs : List Value} {d : Nat} {w : World} (h : Wr B b bs d w) : b < w.heap.size := h.elim (·.lt) (·.lt)
theorem Wr.le {B b : Nat} {bs : List Value} {d : Nat} {w : World} (h : Wr B b bs d w) : B ≤ b := h.elim (·.1) (·.1)
theorem Wr.of {B b : Nat} {bs : List Value} {d : Nat} {w : World} (h : Wr B b bs d w) : ∃ p, (p = .pointer none ∨ p = .pointer (some ⟨b, 0, none⟩)) ∧ WrAt B b p bs d w := h.elim (fun h => ⟨_, .inl rfl, h⟩) (fun h => ⟨_, .inr rfl, h⟩)
theorem WrAt.used {B b : Nat} {p : Value} {bs : List Value} {d : Nat} {w : World} (h : WrAt B b p bs d w) (q : Value) : WrAt B b q bs d (w.setCell ⟨b, 0, none⟩ q) := by
 have hlt := h.lt
 obtain ⟨hB, v, hb, hown, hne⟩ := h
 refine ⟨hB, v, ?_, ?_, hne⟩
 ·simp [World.setCell, Array.getElem?_modify, hb]
 ·exact hown.kept (row := some b) ⟨rfl, rfl, rfl, by simp [World.setCell], fun k _ hk => Below.heap_setCell _ _ _ _ (fun e => hk (by simp [e]))⟩ (Or.inr hne)
theorem Tryz.infoByte : (Tryz.prog.info? 5).map (fun i => (i.zero, i.size, i.bytes)) = some (some (.int .u8 0), 1, 1) := by kernel_rfl
theorem Tryz.sizeBuilder : (Tryz.prog.info? 114).map (·.size) = some 2 := by kernel_rfl
theorem Tryz.liesBuilder : liesAt Tryz.prog Tryz.prog.depth 116 (4 / Tryz.prog.cellsOf 116) 0 114 1 = true := by kernel_rfl

set_option maxRecDepth 100000 in
set_option maxHeartbeats 1000000 in
theorem wcheck_used (b : Nat) (w : World) (h0 : w.cell? ⟨b, 0, none⟩ = some (.pointer (some ⟨b, 0, none⟩))) :
  Calls Tryz.prog 92 #[.pointer (some ⟨b, 0, none⟩)] w fun e w' => e = .returned (.tuple #[]) ∧ w' = w := by
 obtain ⟨j, hj, _⟩ := Option.map_eq_some_iff.1 Tryz.sizeBuilder
 go_enter Tryz.func92, Tryz.ntmps92
 go_wp2
 rw [Lib.run_neq_ptr_same w _ Tryz.underlying111 hj]
 go_wp2
 go_end0
 exact ⟨rfl, rfl⟩
set_option maxRecDepth 100000 in
set_option maxHeartbeats 1000000 in
theorem wcheck_fresh (b : Nat) (w : World) (h0 : w.cell? ⟨b, 0, none⟩ = some (.pointer none)) (hsh : w.shape? b = some (116, 4)) (hfz : w.frozen? ⟨b, 0, none⟩ = false) :
  Calls Tryz.prog 92 #[.pointer (some ⟨b, 0, none⟩)] w fun e w' => e = .returned (.tuple #[]) ∧ w' = w.setCell ⟨b, 0, none⟩ (.pointer (some ⟨b, 0, none⟩)) := by
 obtain ⟨j, hj, hjs⟩ := Option.map_eq_some_iff.1 Tryz.sizeBuilder
 go_enter Tryz.func92, Tryz.ntmps92
 go_wp2
 rw [Lib.run_to_unsafe w ⟨b, 0, none⟩ Tryz.underlying111 Tryz.underlying158 hj (by rw [hjs]; decide) hsh (by simp)]
 simp only [Result.andThen]
 rw [Oper.upon_value]
 go_wp2
 rw [run_callFunc_extern Tryz.func126 (by kernel_rfl) (by kernel_rfl) (by kernel_rfl) (e := Extern.AbiNoEscape.same) (by kernel_rfl)]
 rw [Lib.run_noEscape]
 simp only [Result.andThen]
 rw [Oper.upon_value]
 go_wp2
 rw [Lib.run_from_unsafe w ⟨b, 0, none⟩ Tryz.underlying158 Tryz.underlying111 hj hsh Tryz.liesBuilder]
 simp only [Result.andThen]
 rw [Oper.upon_value]
 go_wp2
 go_end0
 exact ⟨rfl, rfl⟩
theorem wcheck_any (B b : Nat) (bs : List Value) (d : Nat) (w : World) (h : Wr B b bs d w) :
  Calls Tryz.prog 92 #[.pointer (some ⟨b, 0, none⟩)] w fun e w' => e = .returned (.tuple #[]) ∧ WrAt B b (.pointer (some ⟨b, 0, none⟩)) bs d w' ∧ Below B w w' ∧ Kept b w w' := by
 rcases h with h | h
 ·have h' := h
  obtain ⟨hB, v, hb, _⟩ := h
  refine (wcheck_fresh b w (by simp [World.cell?, hb]) (by simp [World.shape?, hb]) (by simp [World.frozen?, hb])).mono ?_
  rintro e w' ⟨rfl, rfl⟩
  exact ⟨rfl, h'.used _, (Below.refl B w).setCell (p := ⟨b, 0, none⟩) hB _, (Lib.OthersKept.refl _ _ _).setCell ⟨b, 0, none⟩ rfl _⟩
 ·have h' := h
  obtain ⟨hB, v, hb, _⟩ := h
  refine (wcheck_used b w (by simp [World.cell?, hb])).mono ?_
  rintro e w' ⟨rfl, rfl⟩
  exact ⟨rfl, h', Below.refl B _, Lib.OthersKept.refl _ _ _⟩
theorem own_slice {w : World} {B : Nat} {e : TypeId} {n : Nat} {v : Value} {xs : List Value} (h : w.ownsRow B e 1 v n xs) : ∃ ao cap, v = .slice ao n cap := by
 rcases h.2 with ⟨hv, h0⟩ | ⟨g, cap, cur, hv, _⟩
 ·exact ⟨none, 0, by rw [hv, h0]⟩
 ·exact ⟨_, _, hv⟩
set_option maxRecDepth 100000 in
set_option maxHeartbeats 1000000 in
theorem wlen_any (B b : Nat) (bs : List Value) (d : Nat) (w : World) (h : Wr B b bs d w) :
  Calls Tryz.prog 57 #[.pointer (some ⟨b, 0, none⟩)] w fun e w' => e = .returned (.int .i64 bs.length) ∧ w' = w := by
 obtain ⟨p, _, hB, v, hb, hown, hne⟩ := h.of
 obtain ⟨ao, cap, rfl⟩ := own_slice hown
 have c1 : w.cell? ⟨b, 1, none⟩ = some (.slice ao bs.length cap) := by simp [World.cell?, hb]
 go_enter Tryz.func57, Tryz.ntmps57
 go_wp2
 go_ret
 exact ⟨rfl, rfl⟩
set_option maxRecDepth 100000 in
set_option maxHeartbeats 1000000 in
theorem wstr_any (B b : Nat) (bs : List Value) (d : Nat) (s : ByteArray) (w : World) (h : Wr B b bs d w) (hlen : bs.length + s.size ≤ 140737488355328) (hBw : B ≤ w.heap.size) :
  Calls Tryz.prog 58 #[.pointer (some ⟨b, 0, none⟩), .string s] w fun e w' => e = .returned (.tuple #[.int .i64 s.size, .nilIface]) ∧ Wr B b (bs ++ Lib.strCells s) d w' ∧ Below B w w' ∧ Kept b w w' := by
 obtain ⟨i0, hi, hz0, hz1, hz2⟩ := info_parts Tryz.infoByte
 go_enter Tryz.func58, Tryz.ntmps58
 go_wp2_with fail
 refine (wcheck_any B b bs d _ h).mono ?_
 rintro e w1 ⟨rfl, h1, hb1, hk1⟩
 obtain ⟨hB, v, hbk, hown, hne⟩ := h1
 have c0 : w1.cell? ⟨b, 0, none⟩ = some (.pointer (some ⟨b, 0, none⟩)) := by simp [World.cell?, hbk]
 have c1 : w1.cell? ⟨b, 1, none⟩ = some v := by simp [World.cell?, hbk]
 go_wp2_with (at_builtin; refine Lib.wpList_append_own_string _ rfl _ _ 112 9 rfl B 5 i0 Tryz.underlying112 Tryz.underlying9 hi hz0 hz1 hz2 _ _ _ rfl hown s rfl ?c3 ?c4 ?c5 ?_)
 case c3 => unfold maxLen; omega
 case c4 => omega
 case c5 => have := hb1.size; omega
 intro v' w2 hown' hgrow _
 have hlt : b < w1.heap.size := (Array.getElem?_eq_some_iff.1 hbk).1
 have hb2 : w2.heap[b]? = some (.cells #[.pointer (some ⟨b, 0, none⟩), v, .int .i64 6000, .int .i64 d] 116 (0, 0)) := by
  rw [hgrow.block b hlt (fun e => hne e.symm)]
  exact hbk
 have d0 : w2.cell? ⟨b, 0, none⟩ = some (.pointer (some ⟨b, 0, none⟩)) := by simp [World.cell?, hb2]
 have d1 : w2.cell? ⟨b, 1, none⟩ = some v := by simp [World.cell?, hb2]
 have f1 : w2.frozen? ⟨b, 1, none⟩ = false := Lib.frozen_of_heap hb2 1
 obtain ⟨ao, n', cap, rfl⟩ : ∃ ao n' cap, v' = .slice ao n' cap := by
  obtain ⟨ao, cap, e⟩ := own_slice hown'
  exact ⟨ao, _, cap, e⟩
 go_wp2
 go_ret2
 have hne' := Lib.ownBlock_ne hown' hb2 (by decide)
 refine ⟨rfl, Or.inr ⟨hB, _, set_row hb2, ?_, hne'⟩, ?_, ?_⟩
 ·rw [List.length_append, Lib.strCells_length]
  exact hown'.kept (row := some b) ⟨rfl, rfl, rfl, by simp [World.setCell], fun k _ hk => Below.heap_setCell _ _ _ _ (fun e => hk (by simp [e]))⟩ (Or.inr hne')
 ·exact (hb1.grown hgrow (by have := hb1.size; omega) (fun k hk => (hown.lt k hk).1)).setCell (p := ⟨b, 1, none⟩) hB _
 ·refine (hk1.grown hgrow (fun g hg => ?_)).setCell ⟨b, 1, none⟩ rfl _
  rcases hown.2 with ⟨hv, _⟩ | ⟨g', cap, cur, hv, _, hh, _⟩
  ·rw [hv] at hg; cases hg
  ·rw [hv] at hg; cases hg; exact ⟨_, _, hh⟩
theorem Tryz.cellsByte : Tryz.prog.cellsOf 5 = 1 := by kernel_rfl
set_option maxRecDepth 100000 in
set_option maxHeartbeats 1000000 in
theorem wString_any (B b : Nat) (l : List UInt8) (d : Nat) (w : World) (h : Wr B b (Lib.byteCells l) d w) (h0 : l ≠ []) :
  Calls Tryz.prog 48 #[.pointer (some ⟨b, 0, none⟩)] w fun e w' => e = .returned (.string ⟨l.toArray⟩) ∧ Below B w w' ∧ Kept b w w' := by
 obtain ⟨p, _, hB, v, hbk, hown, hne⟩ := h.of
 have hl0 : l.length ≠ 0 := by simpa using h0
 rw [Lib.byteCells_length] at hown
 obtain ⟨g, cap, cur, rfl, hbg, hg, hnc, hcm, hcs, htake⟩ : ∃ g cap cur, v = .slice (some ⟨g, 0, none⟩) l.length cap ∧ B ≤ g ∧ w.heap[g]? = some (.cells cur 5 (0, 0)) ∧ l.length ≤ cap ∧ cap ≤ maxLen ∧ cur.size = cap * 1 ∧ cur.toList.take (l.length * 1) = Lib.byteCells l := by
  rcases hown.2 with ⟨_, hz⟩ | ⟨g, cap, cur, hv, r⟩
  ·exact absurd hz hl0
  ·exact ⟨g, cap, cur, hv, r⟩
 have c1 : w.drew.cell? ⟨b, 1, none⟩ = some (.slice (some ⟨g, 0, none⟩) l.length cap) := by
  have : w.drew.heap[b]? = some (.cells #[p, .slice (some ⟨g, 0, none⟩) l.length cap, .int .i64 6000, .int .i64 d] 116 (0, 0)) := hbk
  simp [World.cell?, this]
 have hSD : (Builtin.unsafeSliceData_ #[112] 151 #[.slice (some ⟨g, 0, none⟩) l.length cap]).run Tryz.prog w.drew = .ok (.pointer (some ⟨g, 0, none⟩)) w.drew :=
  Lib.run_unsafeSliceData_row _ _ _ _ _ _ (by omega)
 have hUS : (Builtin.unsafeString_ #[151, 3] 9 #[.pointer (some ⟨g, 0, none⟩), .int .i64 l.length]).run Tryz.prog w.drew = .ok (.string ⟨l.toArray⟩) (w.drew.freeze ⟨g, 0, none⟩ l.length) := by
  refine Lib.run_unsafeString_row w.drew 151 3 9 5 Tryz.underlying151 Tryz.cellsByte g cur.size (by have hg' : w.drew.heap[g]? = some (.cells cur 5 (0, 0)) := hg; simp [World.shape?, hg']) l h0 (by omega) (by unfold maxLen at hcm; omega) ?_
  intro j x hx
  have hj : j < l.length := (List.getElem?_eq_some_iff.1 hx).1
  have e : (⟨g, 0, none⟩ : Addr).add j = ⟨g, j, none⟩ := by cases j <;> simp [Addr.add]
  rw [e]
  show w.cell? ⟨g, j, none⟩ = _
  rw [cell_of_row w g j cur 5 (0, 0) hg]
  have hx' : (Lib.byteCells l)[j]? = some (.int .u8 x.toNat) := by simp [Lib.byteCells, hx]
  rw [← htake, List.getElem?_take] at hx'
  split at hx'
  ·simpa using hx'
  ·cases hx'
 have mixed : Tryz.prog.follows Departure.mixedOrders = true := by kernel_rfl
 go_enter Tryz.func48, Tryz.ntmps48
 go_wp2
 go_region_o
 all_goals (go_wp2; go_ret; exact ⟨rfl, Lib.below_freeze (Below.drew (Below.refl B w)) (p := ⟨g, 0, none⟩) hbg _, Lib.OthersKept.freeze (Lib.OthersKept.drew (Lib.OthersKept.refl _ _ _)) ⟨g, 0, none⟩ _ ⟨_, _, hg⟩⟩)
def WT (B b : Nat) (l : List UInt8) (d : Nat) (w : World) : Prop := Wr B b (Lib.byteCells l) d w
theorem byteCells_append (l : List UInt8) (s : ByteArray) : Lib.byteCells (l ++ s.data.toList) = Lib.byteCells l ++ Lib.strCells s := by
 simp [Lib.byteCells, Lib.strCells]
theorem Wr.kept {B b : Nat} {bs : List Value} {d : Nat} {w : World} (h : Wr B b bs d w) (o : Obj) : Wr B b bs d (w.alloc o) := by
 have hl := h.lt
 rcases h with ⟨hB, v, hb, hown, hne⟩ | ⟨hB, v, hb, hown, hne⟩
 ·exact Or.inl ⟨hB, v, alloc_row _ hb, hown.alloc _, hne⟩
 ·exact Or.inr ⟨hB, v, alloc_row _ hb, hown.alloc _, hne⟩
theorem Wr.most {B b : Nat} {bs : List Value} {d : Nat} {w : World} (h : Wr B b bs d w) : w.cell? ⟨b, 2, none⟩ = some (.int .i64 6000) := by
 obtain ⟨p, _, _, v, hb, _⟩ := h.of
 simp [World.cell?, hb]
theorem Wr.drewN {B b : Nat} {bs : List Value} {d : Nat} {w : World} (h : Wr B b bs d w) (n : Nat) : Wr B b bs d (w.drewN n) := h
structure Qc where
 b : Nat
 g : Nat
 cap : Nat
 l : List Tk
inductive St where
 | here (i : Nat)
 | bad (j : Nat) (bd : Bool)
def St.k : St → Nat
 | .here i => i
 | .bad j _ => j
def St.code : St → Int
 | .here _ => 0
 | .bad _ bd => if bd then 2 else 1
def St.pos (l : List Tk) : St → Int
 | .here _ => 0
 | .bad j _ => tkp l j
def St.isAt : St → Bool
 | .here _ => true
 | .bad _ _ => false
structure QS (C : Qc) (st : St) (d : Nat) (w : World) : Prop where
 c0 : w.cell? ⟨C.b, 0, none⟩ = some (.slice (some ⟨C.g, 0, none⟩) C.l.length C.cap)
 c1 : w.cell? ⟨C.b, 1, none⟩ = some (.int .i64 st.k)
 c2 : w.cell? ⟨C.b, 2, none⟩ = some (.int .i64 d)
 c3 : w.cell? ⟨C.b, 3, none⟩ = some (.int .i64 st.code)
 c4 : w.cell? ⟨C.b, 4, none⟩ = some (.int .i64 (st.pos C.l))
 fz : ∀ k, w.frozen? ⟨C.b, k, none⟩ = false
 row : ∀ k, k < C.l.length → w.cell? ⟨C.g, k * 3, none⟩ = some (.string (tkk C.l k)) ∧ w.cell? ⟨C.g, k * 3 + 1, none⟩ = some (.string (tkx C.l k)) ∧ w.cell? ⟨C.g, k * 3 + 2, none⟩ = some (.int .i64 (tkp C.l k))
 ne : C.g ≠ C.b
 lt : st.k < C.l.length
 len : C.l.length ≤ 6001
 dp : d ≤ 21
 da : st.isAt = true → d ≤ 20
def St.fail (st : St) (bd : Bool) : St := match st with | .here i => .bad i bd | s => s
def St.tx (l : List Tk) (st : St) (x : List UInt8) : Bool := match st with | .here i => Proofs.YtgbpccipdcajgaaGreatDoor.tx l i x | .bad _ _ => false
def St.pass (l : List Tk) (st : St) (x : List UInt8) : St := match st with | .here i => if Proofs.YtgbpccipdcajgaaGreatDoor.tx l i x then .here (i + 1) else .here i | s => s
def St.want (l : List Tk) (st : St) (x : List UInt8) : St := match st with | .here i => if Proofs.YtgbpccipdcajgaaGreatDoor.tx l i x then .here (i + 1) else .bad i false | s => s
def St.nm (l : List Tk) (st : St) : ByteArray := match st with | .here i => if isName l i then tkx l i else b0 | _ => b0
def St.name (l : List Tk) (st : St) : St := match st with | .here i => if isName l i then .here (i + 1) else .bad i false | s => s
def St.some (l : List Tk) (st : St) (xs : List (List UInt8)) : ByteArray := match st with | .here i => if txs l i xs then tkx l i else b0 | _ => b0
inductive ARel (l : List Tk) (i d : Nat) : St → Bool → List Ex → Prop
 | start : d ≠ 20 → ARel l i d (.here (i + 1 + 1)) true []
 | more (j : Nat) (es : List Ex) : d ≠ 20 → (∀ r, Parse l (.more es) j (d + 1) r → Parse l .args (i + 1 + 1) (d + 1) r) → i + 1 + 1 < j → es.length ≤ j → ARel l i d (.here j) false es
 | bad (j : Nat) (bd : Bool) (f : Bool) (es : List Ex) : Parse l .atom i d (.bad j bd) → ARel l i d (.bad j bd) f es
theorem not_both {l : List Tk} {j : Nat} {x y : List UInt8} (hx : tx l j x = true) (hn : x ≠ y) : tx l j y = false := by
 have e : (tkx l j).toList = x := by simpa [tx] using hx
 simp only [tx, e]
 simpa using hn
theorem heap_alloc_new' {w : World} {n : Nat} (h : n = w.heap.size) (o : Obj) : (w.alloc o).heap[n]? = some o := by subst h; exact heap_alloc_new w o
end Go.Proofs.YtgbpccipdcajgaaGreatDoor
namespace Go.Proofs.YtgbpccipdcajgaaGreatDoor
abbrev Pc := ByteArray × ByteArray
def AtP (l : List Tk) (i : Nat) : List Pc → Prop
 | [] => True
 | a :: p => (tkk l i = a.1 ∧ tkx l i = a.2) ∧ AtP l (i + 1) p
theorem AtP.split {l : List Tk} : ∀ {p q : List Pc} {i : Nat}, AtP l i (p ++ q) → AtP l i p ∧ AtP l (i + p.length) q
 | [], q, i, h => ⟨trivial, h⟩
 | a :: p, q, i, h => by
  have := AtP.split (p := p) (q := q) h.2
  refine ⟨⟨h.1, this.1⟩, ?_⟩
  rw [List.length_cons, show i + (p.length + 1) = i + 1 + p.length from by omega]
  exact this.2

def opP (x : List UInt8) : Pc := (kOp, ⟨x.toArray⟩)
def wordP (x : List UInt8) : Pc := (kWord, ⟨x.toArray⟩)
def nameP (s : ByteArray) : Pc := (kName, s)
def intP (t : ByteArray) : Pc := (kInt, t)

structure NmOk (s : ByteArray) : Prop where
 pos : 0 < s.size
 len : s.size ≤ 12
 low : lowI (byteI s 0) = true
 all : ∀ k, k < s.size → nameI (byteI s k) = true
 word : wordB s = false
structure IntOk (t : ByteArray) (n : Int) : Prop where
 pos : 0 < t.size
 all : ∀ k, k < t.size → digI (byteI t k) = true
 ok : intB t = true
 val : decOf t.toList = n

def Lv.num : Lv → Nat
 | .or => 1
 | .and => 2
 | .sum => 5
 | .prod => 6
def piece (x : List UInt8) : Pc := if x ∈ [tOr, tXor, tAnd, tMod, tFby] then wordP x else opP x
abbrev Part := Ex × Nat × List Pc × List UInt8
def joinC : List Part → List Pc
 | [] => []
 | [x] => x.2.2.1
 | x :: y :: r => x.2.2.1 ++ opP tComma :: joinC (y :: r)
def joinX : List Part → List UInt8
 | [] => []
 | [x] => x.2.2.2
 | x :: y :: r => x.2.2.2 ++ (tComma ++ (32 :: joinX (y :: r)))
def maxD : List Part → Nat
 | [] => 0
 | x :: r => max x.2.1 (maxD r)
def sOf (x : List UInt8) : ByteArray := ⟨x.toArray⟩

inductive Pr : Nat → Ex → Nat → List Pc → List UInt8 → Prop
 | brk (L k : Nat) (e : Ex) (p : List Pc) (x : List UInt8) : L ≤ 8 → Pr 0 e k p x → Pr L e (k + 1) (opP tOpen :: (p ++ [opP tShut])) (tOpen ++ (x ++ tShut))
 | int (L : Nat) (t : ByteArray) (n : Int) : L ≤ 8 → IntOk t n → Pr L (.mk sInt n b0 []) 0 [intP t] t.toList
 | bool (L : Nat) (y : List UInt8) : L ≤ 8 → y ∈ [tTrue, tFalse] → Pr L (.mk (sOf y) 0 b0 []) 0 [wordP y] y
 | name (L : Nat) (s : ByteArray) : L ≤ 8 → NmOk s → Pr L (.mk sName 0 s []) 0 [nameP s] s.toList
 | call (L : Nat) (s : ByteArray) (ps : List Part) : L ≤ 8 → NmOk s → (∀ q ∈ ps, Pr 0 q.1 q.2.1 q.2.2.1 q.2.2.2) → Pr L (.mk sCall 0 s (ps.map (·.1))) (maxD ps + 1) (nameP s :: opP tOpen :: (joinC ps ++ [opP tShut])) (s.toList ++ (tOpen ++ (joinX ps ++ tShut)))
 | cond (a b c : Ex) (ka kb kc : Nat) (pa pb pc : List Pc) (xa xb xc : List UInt8) : Pr 0 a ka pa xa → Pr 0 b kb pb xb → Pr 0 c kc pc xc → Pr 0 (.mk (sOf tIf) 0 b0 [a, b, c]) (max ka (max kb kc) + 1) (wordP tIf :: (pa ++ wordP tThen :: (pb ++ wordP tElse :: pc))) (tIf ++ (32 :: (xa ++ (32 :: (tThen ++ (32 :: (xb ++ (32 :: (tElse ++ (32 :: xc))))))))))
 | arrow (y : List UInt8) (a b : Ex) (ka kb : Nat) (pa pb : List Pc) (xa xb : List UInt8) : y ∈ [tArrow, tFby] → Pr 1 a ka pa xa → Pr 0 b kb pb xb → Pr 0 (.mk (sOf y) 0 b0 [a, b]) (max ka (kb + 1)) (pa ++ piece y :: pb) (xa ++ (32 :: (y ++ (32 :: xb))))
 | left (L : Nat) (v : Lv) (y : List UInt8) (a b : Ex) (ka kb : Nat) (pa pb : List Pc) (xa xb : List UInt8) : L ≤ v.num → y ∈ v.ops → Pr v.num a ka pa xa → Pr (v.num + 1) b kb pb xb → Pr L (.mk (sOf y) 0 b0 [a, b]) (max ka kb) (pa ++ piece y :: pb) (xa ++ (32 :: (y ++ (32 :: xb))))
 | cmp (L : Nat) (y : List UInt8) (a b : Ex) (ka kb : Nat) (pa pb : List Pc) (xa xb : List UInt8) : L ≤ 4 → y ∈ cmps → Pr 5 a ka pa xa → Pr 5 b kb pb xb → Pr L (.mk (sOf y) 0 b0 [a, b]) (max ka kb) (pa ++ piece y :: pb) (xa ++ (32 :: (y ++ (32 :: xb))))
 | not (L : Nat) (a : Ex) (k : Nat) (p : List Pc) (x : List UInt8) : L ≤ 3 → Pr 3 a k p x → Pr L (.mk (sOf tNot) 0 b0 [a]) (k + 1) (wordP tNot :: p) (tNot ++ (32 :: x))
 | neg (L : Nat) (a : Ex) (k : Nat) (p : List Pc) (x : List UInt8) : L ≤ 7 → x.head? ≠ some 45 → Pr 7 a k p x → Pr L (.mk sNeg 0 b0 [a]) (k + 1) (opP tMinus :: p) (tMinus ++ x)
 | pre (L : Nat) (a : Ex) (k : Nat) (p : List Pc) (x : List UInt8) : L ≤ 7 → Pr 7 a k p x → Pr L (.mk (sOf tPre) 0 b0 [a]) (k + 1) (wordP tPre :: p) (tPre ++ (32 :: x))

section
theorem sOf_list (x : List UInt8) : (sOf x).toList = x := by rw [ByteArray.toList_eq]; rfl
theorem piece_text (x : List UInt8) : (piece x).2 = sOf x := by unfold piece; split <;> rfl
theorem first_ne {s : ByteArray} {x : List UInt8} (hp : 0 < s.size) (hx : ∀ c ∈ x.head?, (c.toNat : Int) ≠ byteI s 0) : s.toList ≠ x := by
 intro h
 rw [ByteArray.toList_eq] at h
 have h1 : x.head? = some s[0] := by
  rw [← h, List.head?_eq_getElem?, List.getElem?_eq_getElem (by show 0 < s.data.toList.length; rw [Array.length_toList]; exact hp)]
  rfl
 exact hx _ h1 (byteI_lt hp).symm
theorem NmOk.ne {s : ByteArray} (h : NmOk s) {x : List UInt8} (hx : x ∈ wordL) : s.toList ≠ x := by
 intro e
 have h1 := h.word
 rw [wordB, List.any_eq_false] at h1
 exact h1 x hx (by rw [e]; exact beq_self_eq_true x)
theorem NmOk.minus {s : ByteArray} (h : NmOk s) : s.toList ≠ tMinus := first_ne h.pos fun c hc => by
 cases hc
 have := h.low
 simp only [lowI, Bool.and_eq_true, decide_eq_true_eq] at this
 show (45 : Int) ≠ _
 omega
theorem IntOk.ne {t : ByteArray} {n : Int} (h : IntOk t n) {x : List UInt8} (hx : ∀ c ∈ x.head?, digI c.toNat = false) : t.toList ≠ x := first_ne h.pos fun c hc e => by
 have h1 := h.all 0 h.pos
 rw [← e, hx c hc] at h1
 cases h1

structure Fst (L : Nat) (t : ByteArray) : Prop where
 cond : 1 ≤ L → t.toList ≠ tIf
 not : 4 ≤ L → t.toList ≠ tNot
 sign : 8 ≤ L → t.toList ≠ tMinus ∧ t.toList ≠ tPre
theorem Fst.name {s : ByteArray} (h : NmOk s) (L : Nat) : Fst L s := ⟨fun _ => h.ne (by decide), fun _ => h.ne (by decide), fun _ => ⟨h.minus, h.ne (by decide)⟩⟩
theorem Fst.int {t : ByteArray} {n : Int} (h : IntOk t n) (L : Nat) : Fst L t :=
 have d : ∀ {c : UInt8} {x : List UInt8}, digI c.toNat = false → ∀ c' ∈ (c :: x).head?, digI c'.toNat = false := fun hc _ e => by cases e; exact hc
 ⟨fun _ => h.ne (d (by decide)), fun _ => h.ne (d (by decide)), fun _ => ⟨h.ne (d (by decide)), h.ne (d (by decide))⟩⟩
theorem Fst.text {x : List UInt8} {L : Nat} (h1 : 1 ≤ L → x ≠ tIf) (h2 : 4 ≤ L → x ≠ tNot) (h3 : 8 ≤ L → x ≠ tMinus ∧ x ≠ tPre) : Fst L (sOf x) := ⟨fun h => by rw [sOf_list]; exact h1 h, fun h => by rw [sOf_list]; exact h2 h, fun h => by rw [sOf_list]; exact h3 h⟩
theorem Fst.mono {L M : Nat} {t : ByteArray} (h : Fst M t) (hl : L ≤ M) : Fst L t := ⟨fun g => h.cond (by omega), fun g => h.not (by omega), fun g => h.sign (by omega)⟩
theorem Pr.first {L k : Nat} {e : Ex} {p : List Pc} {x : List UInt8} (h : Pr L e k p x) : ∃ t q, p = t :: q ∧ Fst L t.2 := by
 induction h with
 | brk => exact ⟨_, _, rfl, .text (fun _ => by decide) (fun _ => by decide) (fun _ => by decide)⟩
 | int L t n _ ht => exact ⟨_, _, rfl, .int ht L⟩
 | bool L y _ hy =>
  refine ⟨_, _, rfl, ?_⟩
  simp only [List.mem_cons, List.not_mem_nil, or_false] at hy
  rcases hy with rfl | rfl <;> exact .text (fun _ => by decide) (fun _ => by decide) (fun _ => by decide)
 | name L s _ hs => exact ⟨_, _, rfl, .name hs L⟩
 | call L s ps _ hs _ _ => exact ⟨_, _, rfl, .name hs L⟩
 | cond => exact ⟨_, _, rfl, .text (fun h => by omega) (fun h => by omega) (fun h => by omega)⟩
 | arrow y a b ka kb pa pb xa xb _ _ _ iha _ =>
  obtain ⟨t, q, rfl, hf⟩ := iha
  exact ⟨t, _, rfl, hf.mono (by omega)⟩
 | left L v y a b ka kb pa pb xa xb hl _ _ _ iha _ =>
  obtain ⟨t, q, rfl, hf⟩ := iha
  exact ⟨t, _, rfl, hf.mono hl⟩
 | cmp L y a b ka kb pa pb xa xb hl _ _ _ iha _ =>
  obtain ⟨t, q, rfl, hf⟩ := iha
  exact ⟨t, _, rfl, hf.mono (by omega)⟩
 | not L a k p x hl _ _ => exact ⟨_, _, rfl, .text (fun _ => by decide) (fun h => by omega) (fun h => by omega)⟩
 | neg L a k p x hl _ _ _ => exact ⟨_, _, rfl, .text (fun _ => by decide) (fun _ => by decide) (fun h => by omega)⟩
 | pre L a k p x hl _ _ => exact ⟨_, _, rfl, .text (fun _ => by decide) (fun _ => by decide) (fun h => by omega)⟩
end

section
variable {l : List Tk} {i j d : Nat} {e : Ex}
def flw (L : Nat) : List (List UInt8) := tOpen :: ((if L ≤ 5 then Lv.prod.ops else []) ++ ((if L ≤ 4 then Lv.sum.ops ++ cmps else []) ++ ((if L ≤ 1 then Lv.and.ops else []) ++ (if L = 0 then Lv.or.ops ++ [tArrow, tFby] else []))))
def Nx (l : List Tk) (L j : Nat) : Prop := ∀ x ∈ flw L, tx l j x = false
theorem Nx.mono {L M : Nat} (h : Nx l L j) (hl : L ≤ M) : Nx l M j := fun x hx => h x (by
 simp only [flw, List.mem_cons, List.mem_append] at hx ⊢
 rcases hx with hx | hx | hx | hx | hx
 ·exact .inl hx
 ·refine .inr (.inl ?_); split at hx
  ·rw [if_pos (by omega)]; exact hx
  ·cases hx
 ·refine .inr (.inr (.inl ?_)); split at hx
  ·rw [if_pos (by omega)]; exact hx
  ·cases hx
 ·refine .inr (.inr (.inr (.inl ?_))); split at hx
  ·rw [if_pos (by omega)]; exact hx
  ·cases hx
 ·refine .inr (.inr (.inr (.inr ?_))); split at hx
  ·rw [if_pos (by omega)]; exact hx
  ·cases hx)
theorem Nx.txs {L : Nat} (h : Nx l L j) {xs : List (List UInt8)} (hx : ∀ x ∈ xs, x ∈ flw L) : txs l j xs = false := by
 rw [Go.Proofs.YtgbpccipdcajgaaGreatDoor.txs, List.any_eq_false]
 intro x hm
 rw [h x (hx x hm)]; exact Bool.false_ne_true

def Sok (l : List Tk) (L i j d : Nat) (e : Ex) : Prop := match L with
 | 0 => Parse l .term i d (.ok [e] j)
 | 1 => ∀ r, Parse l (.loop .or [e]) j d r → Parse l (.left .or) i d r
 | 2 => ∀ r, Parse l (.loop .and [e]) j d r → Parse l (.left .and) i d r
 | 3 => Parse l .not i d (.ok [e] j)
 | 4 => Parse l .cmp i d (.ok [e] j)
 | 5 => ∀ r, Parse l (.loop .sum [e]) j d r → Parse l (.left .sum) i d r
 | 6 => ∀ r, Parse l (.loop .prod [e]) j d r → Parse l (.left .prod) i d r
 | 7 => Parse l .un i d (.ok [e] j)
 | _ => Parse l .atom i d (.ok [e] j)
def cdL : Nat → Cd
 | 0 => .term
 | 1 => .left .or
 | 2 => .left .and
 | 3 => .not
 | 4 => .cmp
 | 5 => .left .sum
 | 6 => .left .prod
 | 7 => .un
 | _ => .atom
def Sbad (l : List Tk) (L i d : Nat) : Prop := ∃ j, Parse l (cdL L) i d (.bad j true)
structure Goes (l : List Tk) (L i j d k : Nat) (e : Ex) : Prop where
 ok : d + k ≤ 20 → Sok l L i j d e
 bad : 20 < d + k → Sbad l L i d
theorem Fst.no {L : Nat} (h : Fst L (tkx l i)) : (1 ≤ L → tx l i tIf = false) ∧ (4 ≤ L → tx l i tNot = false) ∧ (8 ≤ L → tx l i tMinus = false ∧ tx l i tPre = false) :=
 ⟨fun g => beq_eq_false_iff_ne.2 (h.cond g), fun g => beq_eq_false_iff_ne.2 (h.not g), fun g => ⟨beq_eq_false_iff_ne.2 (h.sign g).1, beq_eq_false_iff_ne.2 (h.sign g).2⟩⟩
theorem Goes.up {L k : Nat} (hL : L < 8) (h : Goes l (L + 1) i j d k e) (hf : Fst (L + 1) (tkx l i)) (hn : Nx l L j) : Goes l L i j d k e := by
 obtain ⟨f1, f2, f3⟩ := hf.no
 match L, hL with
 | 0, _ =>
  refine ⟨fun g => ?_, fun g => ?_⟩
  ·have a : Parse l (.left .or) i d (.ok [e] j) := h.ok g _ (Parse.loopStop .or (hn.txs (by decide)))
   exact Run.ifF (f1 (by omega)) (Run.then a (Run.ifF (hn.txs (by decide)) Run.done))
  ·obtain ⟨m, hm⟩ := h.bad g
   exact ⟨m, Run.ifF (f1 (by omega)) (Run.stop hm)⟩
 | 1, _ =>
  refine ⟨fun g r p => ?_, fun g => ?_⟩
  ·have a : Parse l (.left .and) i d (.ok [e] j) := h.ok g _ (Parse.loopStop .and (hn.txs (by decide)))
   exact Parse.left .or a p
  ·obtain ⟨m, hm⟩ := h.bad g
   exact ⟨m, Run.stop hm⟩
 | 2, _ =>
  refine ⟨fun g r p => ?_, fun g => ?_⟩
  ·exact Parse.left .and (h.ok g) p
  ·obtain ⟨m, hm⟩ := h.bad g
   exact ⟨m, Run.stop hm⟩
 | 3, _ =>
  refine ⟨fun g => ?_, fun g => ?_⟩
  ·exact Run.ifF (f2 (by omega)) (Run.tail (h.ok g))
  ·obtain ⟨m, hm⟩ := h.bad g
   exact ⟨m, Run.ifF (f2 (by omega)) (Run.stop hm)⟩
 | 4, _ =>
  refine ⟨fun g => ?_, fun g => ?_⟩
  ·have a : Parse l (.left .sum) i d (.ok [e] j) := h.ok g _ (Parse.loopStop .sum (hn.txs (by decide)))
   exact Run.then a (Run.ifF (hn.txs (by decide)) Run.done)
  ·obtain ⟨m, hm⟩ := h.bad g
   exact ⟨m, Run.stop hm⟩
 | 5, _ =>
  refine ⟨fun g r p => ?_, fun g => ?_⟩
  ·have a : Parse l (.left .prod) i d (.ok [e] j) := h.ok g _ (Parse.loopStop .prod (hn.txs (by decide)))
   exact Parse.left .sum a p
  ·obtain ⟨m, hm⟩ := h.bad g
   exact ⟨m, Run.stop hm⟩
 | 6, _ =>
  refine ⟨fun g r p => ?_, fun g => ?_⟩
  ·exact Parse.left .prod (h.ok g) p
  ·obtain ⟨m, hm⟩ := h.bad g
   exact ⟨m, Run.stop hm⟩
 | 7, _ =>
  refine ⟨fun g => ?_, fun g => ?_⟩
  ·exact Run.ifF (f3 (by omega)).1 (Run.ifF (f3 (by omega)).2 (Run.tail (h.ok g)))
  ·obtain ⟨m, hm⟩ := h.bad g
   exact ⟨m, Run.ifF (f3 (by omega)).1 (Run.ifF (f3 (by omega)).2 (Run.stop hm))⟩
theorem Goes.to {k L : Nat} : ∀ (n : Nat), L + n ≤ 8 → Goes l (L + n) i j d k e → Fst (L + n) (tkx l i) → Nx l L j → Goes l L i j d k e
 | 0, _, h, _, _ => h
 | n + 1, hL, h, hf, hn => Goes.to n (by omega) (Goes.up (by omega) h hf (hn.mono (by omega))) (hf.mono (by omega)) hn
theorem Goes.down {k L M : Nat} (hM : M ≤ 8) (hl : L ≤ M) (h : Goes l M i j d k e) (hf : Fst M (tkx l i)) (hn : Nx l L j) : Goes l L i j d k e := by
 obtain ⟨n, rfl⟩ := Nat.exists_eq_add_of_le hl
 exact Goes.to n hM h hf hn
end
section
variable {l : List Tk} {i j d : Nat} {e : Ex}
theorem tx_of {x : List UInt8} (h : tkx l i = sOf x) (y : List UInt8) : tx l i y = (x == y) := by rw [tx, h, sOf_list]
theorem txs_of {x : List UInt8} (h : tkx l i = sOf x) {ys : List (List UInt8)} (hm : x ∈ ys) : txs l i ys = true := by
 rw [txs, List.any_eq_true]
 exact ⟨x, hm, by rw [tx_of h]; exact beq_self_eq_true x⟩
theorem Nx.of {x : List UInt8} {L : Nat} (h : tkx l j = sOf x) (hx : ∀ y ∈ flw L, (x == y) = false) : Nx l L j := fun y hy => by rw [tx_of h]; exact hx y hy
theorem kOp_no (h : tkk l i = kOp) : isInt l i = false ∧ isName l i = false := by
 unfold isInt isName
 rw [h, ByteArray.toList_eq]
 exact ⟨rfl, rfl⟩
theorem kWord_no (h : tkk l i = kWord) : isInt l i = false ∧ isName l i = false := by
 unfold isInt isName
 rw [h, ByteArray.toList_eq]
 exact ⟨rfl, rfl⟩
theorem kName_yes (h : tkk l i = kName) : isInt l i = false ∧ isName l i = true := by
 unfold isInt isName
 rw [h, ByteArray.toList_eq]
 exact ⟨rfl, rfl⟩
theorem kInt_yes (h : tkk l i = kInt) : isInt l i = true := by
 unfold isInt
 rw [h, ByteArray.toList_eq]
 rfl
theorem NmOk.txs {s : ByteArray} (h : NmOk s) (ht : tkx l i = s) {ys : List (List UInt8)} (hy : ∀ y ∈ ys, y ∈ wordL) : txs l i ys = false := by
 rw [Go.Proofs.YtgbpccipdcajgaaGreatDoor.txs, List.any_eq_false]
 intro y hm
 rw [tx, ht, Bool.not_eq_true]
 exact beq_eq_false_iff_ne.2 (h.ne (hy y hm))
theorem piece_at {x : List UInt8} (h : tkk l i = (piece x).1 ∧ tkx l i = (piece x).2) : tkx l i = sOf x := by rw [h.2, piece_text]

theorem part_ok (v : Lv) {b : Ex} (h : Sok l (v.num + 1) i j d b) (hn : Nx l v.num j) : Parse l v.part i d (.ok [b] j) := by
 cases v with
 | or => exact h _ (Parse.loopStop .and (hn.txs (by decide)))
 | and => exact h
 | sum => exact h _ (Parse.loopStop .prod (hn.txs (by decide)))
 | prod => exact h
theorem part_bad (v : Lv) (h : Sbad l (v.num + 1) i d) : ∃ m, Parse l v.part i d (.bad m true) := by cases v <;> exact h
theorem left_ok (v : Lv) : Sok l v.num i j d e = ∀ r, Parse l (.loop v [e]) j d r → Parse l (.left v) i d r := by cases v <;> rfl
theorem left_bad (v : Lv) : Sbad l v.num i d = ∃ m, Parse l (.left v) i d (.bad m true) := by cases v <;> rfl

theorem ops_flw : ∀ (v : Lv), ∀ x ∈ v.ops, ∀ y ∈ flw v.num, (x == y) = false := by intro v; cases v <;> decide
theorem cmps_flw : ∀ x ∈ cmps, ∀ y ∈ flw 5, (x == y) = false := by decide
theorem cmps_sum : ∀ x ∈ cmps, ∀ y ∈ Lv.sum.ops, ¬ (x == y) = true := by decide
def Says (e : Ex) (k : Nat) (p : List Pc) : Prop := ∀ (l : List Tk) (i d : Nat), d ≤ 20 → AtP l i p → Nx l 0 (i + p.length) → Goes l 0 i (i + p.length) d k e
theorem args_ok : ∀ (ps : List Part), ps ≠ [] → (∀ x ∈ ps, Says x.1 x.2.1 x.2.2.1) → ∀ (acc : List Ex) (l : List Tk) (i d : Nat), d + maxD ps ≤ 20 → AtP l i (joinC ps) → tkx l (i + (joinC ps).length) = sOf tShut →
  Run l (.call .term i d fun a j => .call (.more (acc ++ a)) j d retA) (.ok (acc ++ ps.map (·.1)) (i + (joinC ps).length))
 | [], h, _, _, _, _, _, _, _, _ => absurd rfl h
 | [x], _, ih, acc, l, i, d, hd, ha, hn => by
  simp only [maxD, joinC] at *
  have hx := ih x List.mem_cons_self l i d (by omega) ha (Nx.of hn (by decide))
  have h1 : Parse l .term i d (.ok [x.1] (i + x.2.2.1.length)) := hx.ok (by omega)
  refine Run.then h1 (Run.tail ?_)
  exact Run.ifF (by rw [tx_of hn]; decide) Run.done
 | x :: y :: r, _, ih, acc, l, i, d, hd, ha, hn => by
  have hD : maxD (x :: y :: r) = max x.2.1 (maxD (y :: r)) := rfl
  have hJ : joinC (x :: y :: r) = x.2.2.1 ++ opP tComma :: joinC (y :: r) := rfl
  rw [hD] at hd
  rw [hJ] at ha hn ⊢
  obtain ⟨a1, ⟨_, a2⟩, a3⟩ := ha.split
  have a2' : tkx l (i + x.2.2.1.length) = sOf tComma := a2
  have hx := ih x List.mem_cons_self l i d (by omega) a1 (Nx.of a2' (by decide))
  have h1 : Parse l .term i d (.ok [x.1] (i + x.2.2.1.length)) := hx.ok (by omega)
  have e : i + (x.2.2.1 ++ opP tComma :: joinC (y :: r)).length = i + x.2.2.1.length + 1 + (joinC (y :: r)).length := by
   rw [List.length_append, List.length_cons]; omega
  rw [e] at hn ⊢
  have h2 := args_ok (y :: r) (by simp) (fun z hz => ih z (List.mem_cons_of_mem _ hz)) (acc ++ [x.1]) l _ d (by omega) a3 hn
  rw [List.append_assoc] at h2
  exact Run.then h1 (Run.tail (Run.ifT (by rw [tx_of a2']; decide) h2))
theorem args_bad : ∀ (ps : List Part), ps ≠ [] → (∀ x ∈ ps, Says x.1 x.2.1 x.2.2.1) → ∀ (acc : List Ex) (l : List Tk) (i d : Nat), d ≤ 20 → 20 < d + maxD ps → AtP l i (joinC ps) → tkx l (i + (joinC ps).length) = sOf tShut →
  ∃ m, Run l (.call .term i d fun a j => .call (.more (acc ++ a)) j d retA) (.bad m true)
 | [], h, _, _, _, _, _, _, _, _, _ => absurd rfl h
 | [x], _, ih, acc, l, i, d, hd, hk, ha, hn => by
  simp only [maxD, joinC] at *
  have hx := ih x List.mem_cons_self l i d (by omega) ha (Nx.of hn (by decide))
  obtain ⟨m, hm⟩ := hx.bad (by omega)
  exact ⟨m, Run.stop hm⟩
 | x :: y :: r, _, ih, acc, l, i, d, hd, hk, ha, hn => by
  have hD : maxD (x :: y :: r) = max x.2.1 (maxD (y :: r)) := rfl
  have hJ : joinC (x :: y :: r) = x.2.2.1 ++ opP tComma :: joinC (y :: r) := rfl
  rw [hD] at hk
  rw [hJ] at ha hn
  obtain ⟨a1, ⟨_, a2⟩, a3⟩ := ha.split
  have a2' : tkx l (i + x.2.2.1.length) = sOf tComma := a2
  have hx := ih x List.mem_cons_self l i d (by omega) a1 (Nx.of a2' (by decide))
  by_cases hx1 : 20 < d + x.2.1
  ·obtain ⟨m, hm⟩ := hx.bad hx1
   exact ⟨m, Run.stop hm⟩
  ·have h1 : Parse l .term i d (.ok [x.1] (i + x.2.2.1.length)) := hx.ok (by omega)
   have e : i + (x.2.2.1 ++ opP tComma :: joinC (y :: r)).length = i + x.2.2.1.length + 1 + (joinC (y :: r)).length := by
    rw [List.length_append, List.length_cons]; omega
   rw [e] at hn
   obtain ⟨m, h2⟩ := args_bad (y :: r) (by simp) (fun z hz => ih z (List.mem_cons_of_mem _ hz)) (acc ++ [x.1]) l _ d hd (by omega) a3 hn
   exact ⟨m, Run.then h1 (Run.tail (Run.ifT (by rw [tx_of a2']; decide) h2))⟩
theorem joinC_first : ∀ (ps : List Part), ps ≠ [] → (∀ x ∈ ps, ∃ t q, x.2.2.1 = t :: q ∧ t.2.toList ≠ tShut) → ∃ t q, joinC ps = t :: q ∧ t.2.toList ≠ tShut
 | [], h, _ => absurd rfl h
 | [x], _, ih => ih x List.mem_cons_self
 | x :: y :: r, _, ih => by
  obtain ⟨t, q, hq, ht⟩ := ih x List.mem_cons_self
  exact ⟨t, q ++ opP tComma :: joinC (y :: r), by simp [joinC, hq], ht⟩
theorem Pr.shut {L k : Nat} {e : Ex} {p : List Pc} {x : List UInt8} (h : Pr L e k p x) : ∃ t q, p = t :: q ∧ t.2.toList ≠ tShut := by
 have sx : ∀ {x : List UInt8}, x ≠ tShut → (sOf x).toList ≠ tShut := fun hx => by rw [sOf_list]; exact hx
 have nm : ∀ {s : ByteArray}, NmOk s → s.toList ≠ tShut := fun {s} hs => first_ne hs.pos fun c hc => by
  cases hc
  have := hs.low
  simp only [lowI, Bool.and_eq_true, decide_eq_true_eq] at this
  show (41 : Int) ≠ _
  omega
 induction h with
 | brk => exact ⟨_, _, rfl, sx (by decide)⟩
 | int L t n _ ht => exact ⟨_, _, rfl, ht.ne fun c hc => by cases hc; decide⟩
 | bool L y _ hx =>
  refine ⟨_, _, rfl, ?_⟩
  simp only [List.mem_cons, List.not_mem_nil, or_false] at hx
  rcases hx with rfl | rfl <;> exact sx (by decide)
 | name L s _ hs => exact ⟨_, _, rfl, nm hs⟩
 | call L s ps _ hs _ _ => exact ⟨_, _, rfl, nm hs⟩
 | cond => exact ⟨_, _, rfl, sx (by decide)⟩
 | arrow x a b ka kb pa pb xa xb _ _ _ iha _ => obtain ⟨t, q, rfl, hf⟩ := iha; exact ⟨t, _, rfl, hf⟩
 | left L v x a b ka kb pa pb xa xb hl _ _ _ iha _ => obtain ⟨t, q, rfl, hf⟩ := iha; exact ⟨t, _, rfl, hf⟩
 | cmp L x a b ka kb pa pb xa xb hl _ _ _ iha _ => obtain ⟨t, q, rfl, hf⟩ := iha; exact ⟨t, _, rfl, hf⟩
 | not => exact ⟨_, _, rfl, sx (by decide)⟩
 | neg => exact ⟨_, _, rfl, sx (by decide)⟩
 | pre => exact ⟨_, _, rfl, sx (by decide)⟩

theorem Pr.goes {L k : Nat} {e : Ex} {p : List Pc} {x : List UInt8} (h : Pr L e k p x) : ∀ (l : List Tk) (i d : Nat), d ≤ 20 → AtP l i p → ∀ M, M ≤ L → Nx l M (i + p.length) → Goes l M i (i + p.length) d k e := by
 induction h with
 | brk L k e p x hL _ ih =>
  intro l i d hd ha M hM hn
  obtain ⟨⟨a0, a0'⟩, ha⟩ := ha
  have a0x : tkx l i = sOf tOpen := a0'
  obtain ⟨a1, ⟨_, a2⟩, _⟩ := ha.split
  have a2' : tkx l (i + 1 + p.length) = sOf tShut := a2
  have ej : i + (opP tOpen :: (p ++ [opP tShut])).length = i + 1 + p.length + 1 := by simp; omega
  rw [ej] at hn ⊢
  refine Goes.down (M := 8) (by omega) (by omega) ⟨fun g => ?_, fun g => ?_⟩ (by rw [a0x]; exact .text (fun _ => by decide) (fun _ => by decide) (fun _ => by decide)) hn
  ·have h1 : Parse l .term (i + 1) (d + 1) (.ok [e] (i + 1 + p.length)) := (ih l (i + 1) (d + 1) (by omega) a1 0 (by omega) (Nx.of a2' (by decide))).ok (by omega)
   exact Run.ifF (kOp_no a0).1 (Run.ifF (by rw [txs, List.any_eq_false]; intro y hy; rw [tx_of a0x]; revert y; decide) (Run.ifF (kOp_no a0).2 (Run.ifT (by rw [tx_of a0x]; decide) (Run.down (by omega) (Run.then h1 (Run.exp (by rw [tx_of a2']; decide) Run.done))))))
  ·refine Exists.imp (fun m (hm : Run l (downA i d (.call .term (i + 1) (d + 1) fun a j => expA l j tShut fun k => retA a k)) (.bad m true)) => Run.ifF (kOp_no a0).1 (Run.ifF (by rw [txs, List.any_eq_false]; intro y hy; rw [tx_of a0x]; revert y; decide) (Run.ifF (kOp_no a0).2 (Run.ifT (by rw [tx_of a0x]; decide) hm)))) ?_
   by_cases h20 : d = 20
   ·exact ⟨_, Run.deep h20⟩
   ·obtain ⟨m, hm⟩ := (ih l (i + 1) (d + 1) (by omega) a1 0 (by omega) (Nx.of a2' (by decide))).bad (by omega)
    exact ⟨m, Run.down h20 (Run.stop hm)⟩
 | int L t n hL ht =>
  intro l i d hd ha M hM hn
  obtain ⟨⟨a0, a0'⟩, _⟩ := ha
  have a0x : tkx l i = t := a0'
  refine Goes.down (M := 8) (by omega) (by omega) ⟨fun _ => ?_, fun g => by omega⟩ (by rw [a0x]; exact .int ht 8) hn
  have h1 : Parse l .atom i d (.ok [.mk sInt (decOf (tkx l i).toList) b0 []] (i + 1)) := Run.ifT (kInt_yes a0) Run.done
  rw [a0x, ht.val] at h1
  exact h1
 | bool L y hL hx =>
  intro l i d hd ha M hM hn
  obtain ⟨⟨a0, a0'⟩, _⟩ := ha
  have a0x : tkx l i = sOf y := a0'
  refine Goes.down (M := 8) (by omega) (by omega) ⟨fun _ => ?_, fun g => by omega⟩ ?_ hn
  ·have h1 : Parse l .atom i d (.ok [.mk (tkx l i) 0 b0 []] (i + 1)) := Run.ifF (kWord_no a0).1 (Run.ifT (txs_of a0x hx) Run.done)
   rw [a0x] at h1
   exact h1
  ·rw [a0x]
   simp only [List.mem_cons, List.not_mem_nil, or_false] at hx
   rcases hx with rfl | rfl <;> exact .text (fun _ => by decide) (fun _ => by decide) (fun _ => by decide)
 | name L s hL hs =>
  intro l i d hd ha M hM hn
  obtain ⟨⟨a0, a0'⟩, _⟩ := ha
  have a0x : tkx l i = s := a0'
  refine Goes.down (M := 8) (by omega) (by omega) ⟨fun _ => ?_, fun g => by omega⟩ (by rw [a0x]; exact .name hs 8) hn
  have h1 : Parse l .atom i d (.ok [.mk sName 0 (tkx l i) []] (i + 1)) := Run.ifF (kName_yes a0).1 (Run.ifF (hs.txs a0x (by decide)) (Run.ifT (kName_yes a0).2 (Run.ifF (hn tOpen List.mem_cons_self) Run.done)))
  rw [a0x] at h1
  exact h1
 | call L s ps hL hs hp ih =>
  intro l i d hd ha M hM hn
  obtain ⟨⟨a0, a0'⟩, ⟨_, a1'⟩, ha⟩ := ha
  have a0x : tkx l i = s := a0'
  have a1x : tkx l (i + 1) = sOf tOpen := a1'
  obtain ⟨a2, ⟨_, a3⟩, _⟩ := ha.split
  have a3x : tkx l (i + 1 + 1 + (joinC ps).length) = sOf tShut := a3
  have ej : i + (nameP s :: opP tOpen :: (joinC ps ++ [opP tShut])).length = i + 1 + 1 + (joinC ps).length + 1 := by simp; omega
  rw [ej] at hn ⊢
  have says : ∀ x ∈ ps, Says x.1 x.2.1 x.2.2.1 := fun x hx l i d hd ha hn => ih x hx l i d hd ha 0 (by omega) hn
  have into : ∀ {r : Res}, Run l (downA (i + 1) d (.call .args (i + 1 + 1) (d + 1) fun a j => expA l j tShut fun k => retA [.mk sCall 0 (tkx l i) a] k)) r → Parse l .atom i d r := fun hr =>
   Run.ifF (kName_yes a0).1 (Run.ifF (hs.txs a0x (by decide)) (Run.ifT (kName_yes a0).2 (Run.ifT (by rw [tx_of a1x]; decide) hr)))
  refine Goes.down (M := 8) (by omega) (by omega) ⟨fun g => ?_, fun g => ?_⟩ (by rw [a0x]; exact .name hs 8) hn
  ·have h1 : Parse l .args (i + 1 + 1) (d + 1) (.ok (ps.map (·.1)) (i + 1 + 1 + (joinC ps).length)) := by
    by_cases he : ps = []
    ·subst he
     exact Run.ifT (by have a4 : tkx l (i + 1 + 1) = sOf tShut := a3x; rw [tx_of a4]; decide) Run.done
    ·obtain ⟨t, q, hq, ht⟩ := joinC_first ps he fun x hx => (hp x hx).shut
     have h2 := args_ok ps he says [] l (i + 1 + 1) (d + 1) (by omega) a2 a3x
     rw [hq] at a2
     exact Run.ifF (by rw [tx, a2.1.2]; exact beq_eq_false_iff_ne.2 ht) h2
   have h3 := into (Run.down (by omega) (Run.then h1 (Run.exp (by rw [tx_of a3x]; decide) Run.done)))
   rw [a0x] at h3
   exact h3
  ·refine Exists.imp (fun _ hm => into hm) ?_
   by_cases h20 : d = 20
   ·exact ⟨_, Run.deep h20⟩
   ·by_cases he : ps = []
    ·subst he
     have h0 : maxD [] = 0 := rfl
     rw [h0] at g
     omega
    ·obtain ⟨t, q, hq, ht⟩ := joinC_first ps he fun x hx => (hp x hx).shut
     obtain ⟨m, h2⟩ := args_bad ps he says [] l (i + 1 + 1) (d + 1) (by omega) (by omega) a2 a3x
     rw [hq] at a2
     exact ⟨m, Run.down h20 (Run.stop (Run.ifF (by rw [tx, a2.1.2]; exact beq_eq_false_iff_ne.2 ht) h2))⟩
 | cond a b c ka kb kc pa pb pc xa xb xc _ _ _ iha ihb ihc =>
  intro l i d hd ha M hM hn
  obtain rfl : M = 0 := by omega
  obtain ⟨⟨_, a0'⟩, ha⟩ := ha
  have a0x : tkx l i = sOf tIf := a0'
  obtain ⟨aa, ⟨_, a1'⟩, ha⟩ := ha.split
  have a1x : tkx l (i + 1 + pa.length) = sOf tThen := a1'
  obtain ⟨ab, ⟨_, a2'⟩, ac⟩ := ha.split
  have a2x : tkx l (i + 1 + pa.length + 1 + pb.length) = sOf tElse := a2'
  have ej : i + (wordP tIf :: (pa ++ wordP tThen :: (pb ++ wordP tElse :: pc))).length = i + 1 + pa.length + 1 + pb.length + 1 + pc.length := by simp; omega
  rw [ej] at hn ⊢
  have ga := fun hd => iha l (i + 1) (d + 1) hd aa 0 (by omega) (Nx.of a1x (by decide))
  have gb := fun hd => ihb l _ (d + 1) hd ab 0 (by omega) (Nx.of a2x (by decide))
  have gc := fun hd => ihc l _ (d + 1) hd ac 0 (by omega) hn
  have t0 : tx l i tIf = true := by rw [tx_of a0x]; decide
  have t1 : tx l (i + 1 + pa.length) tThen = true := by rw [tx_of a1x]; decide
  have t2 : tx l (i + 1 + pa.length + 1 + pb.length) tElse = true := by rw [tx_of a2x]; decide
  refine ⟨fun g => ?_, fun g => ?_⟩
  ·have h3 := Parse.ifMore (d := d) t0 (by omega) ((ga (by omega)).ok (by omega)) t1 ((gb (by omega)).ok (by omega)) t2 ((gc (by omega)).ok (by omega))
   rw [a0x] at h3
   exact h3
  ·by_cases h20 : d = 20
   ·exact ⟨_, Run.ifT t0 (Run.deep h20)⟩
   ·by_cases hka : 20 < d + 1 + ka
    ·obtain ⟨m, hm⟩ := (ga (by omega)).bad hka
     exact ⟨m, Run.ifT t0 (Run.down h20 (Run.stop hm))⟩
    ·have oa : Parse l .term (i + 1) (d + 1) (.ok [a] _) := (ga (by omega)).ok (by omega)
     by_cases hkb : 20 < d + 1 + kb
     ·obtain ⟨m, hm⟩ := (gb (by omega)).bad hkb
      exact ⟨m, Run.ifT t0 (Run.down h20 (Run.then oa (Run.exp t1 (Run.stop hm))))⟩
     ·have ob : Parse l .term _ (d + 1) (.ok [b] _) := (gb (by omega)).ok (by omega)
      obtain ⟨m, hm⟩ := (gc (by omega)).bad (by omega)
      exact ⟨m, Run.ifT t0 (Run.down h20 (Run.then oa (Run.exp t1 (Run.then ob (Run.exp t2 (Run.stop hm))))))⟩
 | arrow x a b ka kb pa pb xa xb hx hpa _ iha ihb =>
  intro l i d hd ha M hM hn
  obtain rfl : M = 0 := by omega
  obtain ⟨aa, a1, ab⟩ := ha.split
  have a1x : tkx l (i + pa.length) = sOf x := piece_at a1
  have ej : i + (pa ++ piece x :: pb).length = i + pa.length + 1 + pb.length := by simp; omega
  rw [ej] at hn ⊢
  have nx1 : Nx l 1 (i + pa.length) := Nx.of a1x (by
   simp only [List.mem_cons, List.not_mem_nil, or_false] at hx
   rcases hx with rfl | rfl <;> decide)
  have stop : txs l (i + pa.length) Lv.or.ops = false := by
   rw [txs, List.any_eq_false]; intro y hy; rw [tx_of a1x]
   simp only [List.mem_cons, List.not_mem_nil, or_false] at hx
   revert y; rcases hx with rfl | rfl <;> decide
  have ga := iha l i d hd aa 1 (by omega) nx1
  have gb := fun hd => ihb l _ (d + 1) hd ab 0 (by omega) hn
  obtain ⟨t, q, hq, hf⟩ := hpa.first
  have f1 : tx l i tIf = false := by
   rw [hq] at aa
   rw [tx, aa.1.2]; exact beq_eq_false_iff_ne.2 (hf.cond (by omega))
  refine ⟨fun g => ?_, fun g => ?_⟩
  ·have oa : Parse l (.left .or) i d (.ok [a] (i + pa.length)) := ga.ok (by omega) _ (Parse.loopStop .or stop)
   have ob : Parse l .term (i + pa.length + 1) (d + 1) (.ok [b] _) := (gb (by omega)).ok (by omega)
   have h3 : Parse l .term i d (.ok [.mk (tkx l (i + pa.length)) 0 b0 ([a] ++ [b])] _) := Run.ifF f1 (Run.then oa (Run.ifT (txs_of a1x hx) (Run.down (by omega) (Run.then ob Run.done))))
   rw [a1x] at h3
   exact h3
  ·by_cases hka : 20 < d + ka
   ·obtain ⟨m, hm⟩ := ga.bad hka
    exact ⟨m, Run.ifF f1 (Run.stop hm)⟩
   ·have oa : Parse l (.left .or) i d (.ok [a] (i + pa.length)) := ga.ok (by omega) _ (Parse.loopStop .or stop)
    by_cases h20 : d = 20
    ·exact ⟨_, Run.ifF f1 (Run.then oa (Run.ifT (txs_of a1x hx) (Run.deep h20)))⟩
    ·obtain ⟨m, hm⟩ := (gb (by omega)).bad (by omega)
     exact ⟨m, Run.ifF f1 (Run.then oa (Run.ifT (txs_of a1x hx) (Run.down h20 (Run.stop hm))))⟩
 | left L v x a b ka kb pa pb xa xb hL hx hpa _ iha ihb =>
  intro l i d hd ha M hM hn
  obtain ⟨aa, a1, ab⟩ := ha.split
  have a1x : tkx l (i + pa.length) = sOf x := piece_at a1
  have ej : i + (pa ++ piece x :: pb).length = i + pa.length + 1 + pb.length := by simp; omega
  rw [ej] at hn ⊢
  have hv : v.num ≤ 6 := by cases v <;> decide
  have nx1 : Nx l v.num (i + pa.length) := Nx.of a1x (ops_flw v x hx)
  have ga := iha l i d hd aa v.num (by omega) nx1
  have gb := ihb l _ d hd ab (v.num + 1) (by omega) (hn.mono (by omega))
  obtain ⟨t, q, hq, hf⟩ := hpa.first
  have f1 : Fst v.num (tkx l i) := by
   rw [hq] at aa
   rw [aa.1.2]; exact hf
  refine Goes.down (M := v.num) (by omega) (by omega) ⟨fun g => ?_, fun g => ?_⟩ f1 hn
  ·rw [left_ok]
   intro r p
   have oa := ga.ok (by omega)
   rw [left_ok] at oa
   refine oa r (Parse.loopMore v (txs_of a1x hx) (part_ok v (gb.ok (by omega)) (hn.mono (by omega))) ?_)
   rw [a1x]
   exact p
  ·rw [left_bad]
   by_cases hka : 20 < d + ka
   ·have := ga.bad hka
    rw [left_bad] at this
    exact this
   ·have oa := ga.ok (by omega)
    rw [left_ok] at oa
    obtain ⟨m, hm⟩ := part_bad v (gb.bad (by omega))
    exact ⟨m, oa _ (Parse.loopBad v (txs_of a1x hx) hm)⟩
 | cmp L x a b ka kb pa pb xa xb hL hx hpa _ iha ihb =>
  intro l i d hd ha M hM hn
  obtain ⟨aa, a1, ab⟩ := ha.split
  have a1x : tkx l (i + pa.length) = sOf x := piece_at a1
  have ej : i + (pa ++ piece x :: pb).length = i + pa.length + 1 + pb.length := by simp; omega
  rw [ej] at hn ⊢
  have nx1 : Nx l 5 (i + pa.length) := Nx.of a1x (cmps_flw x hx)
  have stop : txs l (i + pa.length) Lv.sum.ops = false := by
   rw [txs, List.any_eq_false]; intro y hy; rw [tx_of a1x]
   exact cmps_sum x hx y hy
  have ga := iha l i d hd aa 5 (by omega) nx1
  have gb := ihb l _ d hd ab 5 (by omega) (hn.mono (by omega))
  have stopb : txs l (i + pa.length + 1 + pb.length) Lv.sum.ops = false := (hn.mono (M := 4) (by omega)).txs (by decide)
  obtain ⟨t, q, hq, hf⟩ := hpa.first
  have f1 : Fst 4 (tkx l i) := by
   rw [hq] at aa
   rw [aa.1.2]; exact hf.mono (by omega)
  refine Goes.down (M := 4) (by omega) (by omega) ⟨fun g => ?_, fun g => ?_⟩ f1 hn
  ·have oa : Parse l (.left .sum) i d (.ok [a] (i + pa.length)) := ga.ok (by omega) _ (Parse.loopStop .sum stop)
   have ob : Parse l (.left .sum) (i + pa.length + 1) d (.ok [b] _) := gb.ok (by omega) _ (Parse.loopStop .sum stopb)
   have h3 : Parse l .cmp i d (.ok [.mk (tkx l (i + pa.length)) 0 b0 ([a] ++ [b])] _) := Run.then oa (Run.ifT (txs_of a1x hx) (Run.then ob Run.done))
   rw [a1x] at h3
   exact h3
  ·by_cases hka : 20 < d + ka
   ·obtain ⟨m, hm⟩ := ga.bad hka
    exact ⟨m, Run.stop hm⟩
   ·have oa : Parse l (.left .sum) i d (.ok [a] (i + pa.length)) := ga.ok (by omega) _ (Parse.loopStop .sum stop)
    obtain ⟨m, hm⟩ := gb.bad (by omega)
    exact ⟨m, Run.then oa (Run.ifT (txs_of a1x hx) (Run.stop hm))⟩
 | not L a k p x hL _ ih =>
  intro l i d hd ha M hM hn
  obtain ⟨⟨_, a0'⟩, aa⟩ := ha
  have a0x : tkx l i = sOf tNot := a0'
  have ej : i + (wordP tNot :: p).length = i + 1 + p.length := by simp; omega
  rw [ej] at hn ⊢
  have t0 : tx l i tNot = true := by rw [tx_of a0x]; decide
  have ga := fun hd => ih l (i + 1) (d + 1) hd aa 3 (by omega) (hn.mono (by omega))
  refine Goes.down (M := 3) (by omega) (by omega) ⟨fun g => ?_, fun g => ?_⟩ (by rw [a0x]; exact .text (fun _ => by decide) (fun h => by omega) (fun h => by omega)) hn
  ·exact Parse.notMore t0 (by omega) ((ga (by omega)).ok (by omega))
  ·by_cases h20 : d = 20
   ·exact ⟨_, Run.ifT t0 (Run.deep h20)⟩
   ·obtain ⟨m, hm⟩ := (ga (by omega)).bad (by omega)
    exact ⟨m, Run.ifT t0 (Run.down h20 (Run.stop hm))⟩
 | neg L a k p x hL _ _ ih =>
  intro l i d hd ha M hM hn
  obtain ⟨⟨_, a0'⟩, aa⟩ := ha
  have a0x : tkx l i = sOf tMinus := a0'
  have ej : i + (opP tMinus :: p).length = i + 1 + p.length := by simp; omega
  rw [ej] at hn ⊢
  have t0 : tx l i tMinus = true := by rw [tx_of a0x]; decide
  have ga := fun hd => ih l (i + 1) (d + 1) hd aa 7 (by omega) (hn.mono (by omega))
  refine Goes.down (M := 7) (by omega) (by omega) ⟨fun g => ?_, fun g => ?_⟩ (by rw [a0x]; exact .text (fun _ => by decide) (fun _ => by decide) (fun h => by omega)) hn
  ·have oa : Parse l .un (i + 1) (d + 1) (.ok [a] _) := (ga (by omega)).ok (by omega)
   exact Run.ifT t0 (Run.down (by omega) (Run.then oa Run.done))
  ·by_cases h20 : d = 20
   ·exact ⟨_, Run.ifT t0 (Run.deep h20)⟩
   ·obtain ⟨m, hm⟩ := (ga (by omega)).bad (by omega)
    exact ⟨m, Run.ifT t0 (Run.down h20 (Run.stop hm))⟩
 | pre L a k p x hL _ ih =>
  intro l i d hd ha M hM hn
  obtain ⟨⟨_, a0'⟩, aa⟩ := ha
  have a0x : tkx l i = sOf tPre := a0'
  have ej : i + (wordP tPre :: p).length = i + 1 + p.length := by simp; omega
  rw [ej] at hn ⊢
  have t0 : tx l i tPre = true := by rw [tx_of a0x]; decide
  have t1 : tx l i tMinus = false := by rw [tx_of a0x]; decide
  have ga := fun hd => ih l (i + 1) (d + 1) hd aa 7 (by omega) (hn.mono (by omega))
  refine Goes.down (M := 7) (by omega) (by omega) ⟨fun g => ?_, fun g => ?_⟩ (by rw [a0x]; exact .text (fun _ => by decide) (fun _ => by decide) (fun h => by omega)) hn
  ·have oa : Parse l .un (i + 1) (d + 1) (.ok [a] _) := (ga (by omega)).ok (by omega)
   exact Run.ifF t1 (Run.ifT t0 (Run.down (by omega) (Run.then oa Run.done)))
  ·by_cases h20 : d = 20
   ·exact ⟨_, Run.ifF t1 (Run.ifT t0 (Run.deep h20))⟩
   ·obtain ⟨m, hm⟩ := (ga (by omega)).bad (by omega)
    exact ⟨m, Run.ifF t1 (Run.ifT t0 (Run.down h20 (Run.stop hm)))⟩
end
end Go.Proofs.YtgbpccipdcajgaaGreatDoor
