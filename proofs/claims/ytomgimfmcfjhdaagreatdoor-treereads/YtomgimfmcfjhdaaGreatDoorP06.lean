/-
  WHAT A PROGRAM's BYTES ARE READ AS, IN PLAIN MATHEMATICS: tokens, one behind the other, to the end, or to a byte at which none begins. There is one answer.
-/
import Derived.Test.YtomgimfmcfjhdaaGreatDoorP05
import Derived.Deep.AppendLies
import Derived.OwnWalk
namespace Go.Proofs.YtomgimfmcfjhdaaGreatDoor
open Go.RowKit

structure Tk where
  kind : ByteArray
  text : ByteArray
  pos : Nat
/-- Tokens as they lie in memory. -/
def tkCells (l : List Tk) : List Value := l.flatMap fun t => [.string t.kind, .string t.text, .int .i64 t.pos]
theorem tkCells_snoc (l : List Tk) (t : Tk) : tkCells (l ++ [t]) = tkCells l ++ [.string t.kind, .string t.text, .int .i64 t.pos] := by
  simp [tkCells]
theorem tkCells_length (l : List Tk) : (tkCells l).length = l.length * 3 := by
  induction l with
  | nil => rfl
  | cons t r ih => simp only [tkCells, List.flatMap_cons, List.length_append, List.length_cons, List.length_nil] at *; omega
theorem tkCells_at : ∀ (l : List Tk) (i : Nat) (h : i < l.length), (tkCells l)[i * 3]? = some (.string l[i].kind) ∧ (tkCells l)[i * 3 + 1]? = some (.string l[i].text) ∧ (tkCells l)[i * 3 + 2]? = some (.int .i64 l[i].pos)
  | [], i, h => by cases h
  | t :: r, 0, _ => ⟨rfl, rfl, rfl⟩
  | t :: r, i + 1, h => by
    have := tkCells_at r i (by simpa using h)
    have e : tkCells (t :: r) = .string t.kind :: .string t.text :: .int .i64 t.pos :: tkCells r := rfl
    rw [e, show (i + 1) * 3 = i * 3 + 3 from by omega, show i * 3 + 3 + 1 = (i * 3 + 1) + 3 from by omega, show i * 3 + 3 + 2 = (i * 3 + 2) + 3 from by omega]
    simpa using this

theorem Skips.le {s : ByteArray} {i j : Nat} (h : Skips s i j) : i ≤ j := by
  induction h with
  | refl => exact Nat.le_refl _
  | blank i j _ _ _ ih => omega
  | comment i n j _ _ _ _ ih => omega

/-- So far these tokens, and one stands at i. -/
inductive Reads (s : ByteArray) : List Tk → Nat → Prop
  | start : Reads s [] 0
  | tok (l : List Tk) (i j n : Nat) (kind text : ByteArray) : Reads s l i → Stands s i j → comB s j = false → TokAt s j kind text n → kind.toList.isEmpty = false → (kind.toList == [101, 110, 100]) = false → Reads s (l ++ [⟨kind, text, j⟩]) (j + n)

theorem low_name {c : Int} (h : lowI c = true) : nameI c = true := by simp [nameI, h]
theorem kEnd_list : kEnd.toList = [101, 110, 100] := by rw [ByteArray.toList_eq]; rfl
theorem kNone_list : kNone.toList = [] := by rw [ByteArray.toList_eq]; rfl
theorem TokAt.le {s : ByteArray} {j n : Nat} {kind text : ByteArray} (T : TokAt s j kind text n) (hj : j ≤ s.size) : j + n ≤ s.size := by
  cases T with
  | fin h => omega
  | low n _ _ r => exact r.le
  | dig n _ _ _ r => exact r.le
  | op n hjl _ _ h =>
    have := opN_le (s.extract j s.size)
    rw [ByteArray.size_extract] at this
    omega
theorem TokAt.pos {s : ByteArray} {j n : Nat} {kind text : ByteArray} (T : TokAt s j kind text n) (h0 : kind.toList.isEmpty = false) (h1 : (kind.toList == [101, 110, 100]) = false) : 0 < n := by
  cases T with
  | fin h => rw [kEnd_list] at h1; cases h1
  | low n hj hl r =>
    rcases Nat.eq_zero_or_pos n with h | h
    · subst h
      have := r.stop (by omega)
      rw [Nat.add_zero, low_name hl] at this; cases this
    · exact h
  | dig n hj _ hd r =>
    rcases Nat.eq_zero_or_pos n with h | h
    · subst h
      have := r.stop (by omega)
      rw [Nat.add_zero, hd] at this; cases this
    · exact h
  | op n hj _ _ h =>
    rcases Nat.eq_zero_or_pos n with h2 | h2
    · exfalso
      have e : (s.extract j (j + n)).toList = [] := by
        rw [nil_iff, ByteArray.size_extract]; omega
      have ek : opK (s.extract j (j + n)) = kNone := by simp [opK, e]
      rw [ek, kNone_list] at h0
      cases h0
    · exact h2
theorem Reads.le {s : ByteArray} {l : List Tk} {i : Nat} (h : Reads s l i) : i ≤ s.size ∧ l.length ≤ i := by
  induction h with
  | start => exact ⟨Nat.zero_le _, Nat.le_refl _⟩
  | tok l i j n kind text _ St _ T h0 h1 ih =>
    have hp := T.pos h0 h1
    have hl := T.le St.le
    have hij : i ≤ j := St.skips.le
    rw [List.length_append]
    exact ⟨hl, by simp only [List.length_cons, List.length_nil]; omega⟩

theorem Skips.one {s : ByteArray} {i j k : Nat} (h : Skips s i j) (hj : j < s.size → blankI (byteI s j) = false) (cj : comB s j = false) (g : Skips s i k) (hk : k < s.size → blankI (byteI s k) = false) (ck : comB s k = false) : j = k := by
  induction h with
  | refl i =>
    cases g with
    | refl => rfl
    | blank _ _ h1 h2 _ => rw [hj h1] at h2; cases h2
    | comment _ n _ h1 _ _ _ => rw [cj] at h1; cases h1
  | blank i j h1 h2 _ ih =>
    cases g with
    | refl => rw [hk h1] at h2; cases h2
    | blank _ _ _ _ g => exact ih hj cj g
    | comment _ n _ _ h3 _ _ => rw [h2] at h3; cases h3
  | comment i n j h1 h2 h3 _ ih =>
    cases g with
    | refl => rw [ck] at h1; cases h1
    | blank _ _ _ h4 _ => rw [h2] at h4; cases h4
    | comment _ m _ _ _ h5 g =>
      obtain rfl := h3.one h5
      exact ih hj cj g
theorem Stands.one {s : ByteArray} {i j k : Nat} (h : Stands s i j) (cj : comB s j = false) (g : Stands s i k) (ck : comB s k = false) : j = k :=
  h.skips.one h.blank cj g.skips g.blank ck

theorem TokAt.one {s : ByteArray} {j n m : Nat} {k t k' t' : ByteArray} (a : TokAt s j k t n) (b : TokAt s j k' t' m) : k = k' ∧ t = t' ∧ n = m := by
  cases a with
  | fin h =>
    cases b with
    | fin => exact ⟨rfl, rfl, rfl⟩
    | low _ h1 => omega
    | dig _ h1 => omega
    | op _ h1 => omega
  | low n h1 h2 r =>
    cases b with
    | fin h => omega
    | low m _ _ r' => obtain rfl := r.one r'; exact ⟨rfl, rfl, rfl⟩
    | dig m _ h3 => rw [h2] at h3; cases h3
    | op m _ h3 => rw [h2] at h3; cases h3
  | dig n h1 h2 h3 r =>
    cases b with
    | fin h => omega
    | low m _ h4 => rw [h2] at h4; cases h4
    | dig m _ _ _ r' => obtain rfl := r.one r'; exact ⟨rfl, rfl, rfl⟩
    | op m _ _ h4 => rw [h3] at h4; cases h4
  | op n h1 h2 h3 e =>
    cases b with
    | fin h => omega
    | low m _ h4 => rw [h2] at h4; cases h4
    | dig m _ _ h4 => rw [h3] at h4; cases h4
    | op m _ _ _ e' => rw [e, e']; exact ⟨rfl, rfl, rfl⟩

/-- From i on: these tokens, the end's last (none); or these, and none begins at j (some j). -/
inductive Lexes (s : ByteArray) : Nat → List Tk → Option Nat → Prop
  | fin (i j n : Nat) (kind text : ByteArray) : Stands s i j → comB s j = false → TokAt s j kind text n → kind.toList.isEmpty = false → (kind.toList == [101, 110, 100]) = true → Lexes s i [⟨kind, text, j⟩] none
  | bad (i j n : Nat) (kind text : ByteArray) : Stands s i j → comB s j = false → TokAt s j kind text n → kind.toList.isEmpty = true → Lexes s i [] (some j)
  | tok (i j n : Nat) (kind text : ByteArray) (l : List Tk) (r : Option Nat) : Stands s i j → comB s j = false → TokAt s j kind text n → kind.toList.isEmpty = false → (kind.toList == [101, 110, 100]) = false → Lexes s (j + n) l r → Lexes s i (⟨kind, text, j⟩ :: l) r
theorem Lexes.one {s : ByteArray} {i : Nat} {l l' : List Tk} {r r' : Option Nat} (a : Lexes s i l r) (b : Lexes s i l' r') : l = l' ∧ r = r' := by
  induction a generalizing l' r' with
  | fin i j n kind text S c T h0 h1 =>
    cases b with
    | fin _ j' n' kind' text' S' c' T' =>
      obtain rfl := S.one c S' c'
      obtain ⟨rfl, rfl, rfl⟩ := T.one T'
      exact ⟨rfl, rfl⟩
    | bad _ j' n' kind' text' S' c' T' h =>
      obtain rfl := S.one c S' c'
      obtain ⟨rfl, rfl, rfl⟩ := T.one T'
      rw [h0] at h; cases h
    | tok _ j' n' kind' text' _ _ S' c' T' _ h =>
      obtain rfl := S.one c S' c'
      obtain ⟨rfl, rfl, rfl⟩ := T.one T'
      rw [h1] at h; cases h
  | bad i j n kind text S c T h0 =>
    cases b with
    | fin _ j' n' kind' text' S' c' T' h =>
      obtain rfl := S.one c S' c'
      obtain ⟨rfl, rfl, rfl⟩ := T.one T'
      rw [h0] at h; cases h
    | bad _ j' n' kind' text' S' c' T' h =>
      obtain rfl := S.one c S' c'
      exact ⟨rfl, rfl⟩
    | tok _ j' n' kind' text' _ _ S' c' T' h _ =>
      obtain rfl := S.one c S' c'
      obtain ⟨rfl, rfl, rfl⟩ := T.one T'
      rw [h0] at h; cases h
  | tok i j n kind text l r S c T h0 h1 _ ih =>
    cases b with
    | fin _ j' n' kind' text' S' c' T' _ h =>
      obtain rfl := S.one c S' c'
      obtain ⟨rfl, rfl, rfl⟩ := T.one T'
      rw [h1] at h; cases h
    | bad _ j' n' kind' text' S' c' T' h =>
      obtain rfl := S.one c S' c'
      obtain ⟨rfl, rfl, rfl⟩ := T.one T'
      rw [h0] at h; cases h
    | tok _ j' n' kind' text' _ _ S' c' T' _ _ g =>
      obtain rfl := S.one c S' c'
      obtain ⟨rfl, rfl, rfl⟩ := T.one T'
      obtain ⟨rfl, rfl⟩ := ih g
      exact ⟨rfl, rfl⟩
theorem Reads.lexes {s : ByteArray} {l : List Tk} {i : Nat} (h : Reads s l i) : ∀ {l' : List Tk} {r : Option Nat}, Lexes s i l' r → Lexes s 0 (l ++ l') r := by
  induction h with
  | start => intro l' r g; exact g
  | tok l i j n kind text _ S c T h0 h1 ih =>
    intro l' r g
    rw [List.append_assoc]
    exact ih (.tok i j n kind text l' r S c T h0 h1 g)
end Go.Proofs.YtomgimfmcfjhdaaGreatDoor

/-
  lex.Lex BY ITS CONTRACTS: of a text of more than 6000 bytes: the error that ErrBound holds; of any other one: its tokens in new memory, or a new *api.Fault with ErrText where none begins. What was in memory stays. Conditions: ErrText, ErrBound and strconv's ErrRange hold errors.
-/
namespace Go.Proofs.YtomgimfmcfjhdaaGreatDoor
open Go.RowKit
attribute [local go_sem ↓] Go.wp_at_zero Go.wp_at_succ

theorem Tryz.infoTok : (Tryz.prog.info? 37).map (fun i => (i.zero, i.size, i.bytes)) = some (some (.agg #[.string ⟨#[]⟩, .string ⟨#[]⟩, .int .i64 0]), 3, 40) := by kernel_rfl

theorem lex_long (s : ByteArray) (w : World) (vB : Value) (h : 6000 < s.size) (hm : s.size ≤ maxLen) (hB : w.cell? ⟨1, 0, none⟩ = some vB) (hv : ∃ t x, vB = .iface t x) :
    Calls Tryz.prog 11 #[.string s] w fun e w' => e = .returned (.tuple #[.slice none 0 0, vB]) ∧ ∃ k, w' = w.drewN k := by
  obtain ⟨t, x, rfl⟩ := hv
  unfold maxLen at hm
  go_enter Tryz.func11, Tryz.ntmps11
  go_wp2
  go_quiet (fail)
  go_wp2
  go_ret2
  exact ⟨rfl, _, rfl⟩

theorem ownsRow_mv {ba base : Nat} {w w' : World} {e : TypeId} {size : Nat} {v : Value} {n : Nat} {xs : List Value} (h : w.ownsRow base e size v n xs) (hm : Mv ba w w') (hb : ba < base) : w'.ownsRow base e size v n xs := by
  obtain ⟨h1, h2⟩ := h
  refine ⟨h1, ?_⟩
  rcases h2 with h2 | ⟨g, cap, cur, hv, hg, hh, r⟩
  · exact Or.inl h2
  · refine Or.inr ⟨g, cap, cur, hv, hg, ?_, r⟩
    have hl : g < w.heap.size := by
      rcases Nat.lt_or_ge g w.heap.size with h | h
      · exact h
      · rw [Array.getElem?_eq_none h] at hh; cases hh
    rw [hm.block g hl (by intro e; injection e with e; omega)]; exact hh

theorem ownsRow_low {base base' : Nat} {w : World} {e : TypeId} {size : Nat} {v : Value} {n : Nat} {xs : List Value} (h : w.ownsRow base e size v n xs) (hb : base' ≤ base) : w.ownsRow base' e size v n xs := by
  obtain ⟨h1, h2⟩ := h
  refine ⟨h1, ?_⟩
  rcases h2 with h2 | ⟨g, cap, cur, hv, hg, r⟩
  · exact Or.inl h2
  · exact Or.inr ⟨g, cap, cur, hv, Nat.le_trans hb hg, r⟩
theorem ownsRow_block {base : Nat} {w : World} {e : TypeId} {size : Nat} {v : Value} {n : Nat} {xs : List Value} (h : w.ownsRow base e size v n xs) {k : Nat} (hk : v.ownBlock = some k) : base ≤ k ∧ k < w.heap.size := by
  obtain ⟨_, h2⟩ := h
  rcases h2 with ⟨rfl, _⟩ | ⟨g, cap, cur, rfl, hg, hh, r⟩
  · cases hk
  · have e : g = k := by simpa [Value.ownBlock] using hk
    subst e
    refine ⟨hg, ?_⟩
    rcases Nat.lt_or_ge g w.heap.size with h | h
    · exact h
    · rw [Array.getElem?_eq_none h] at hh; cases hh
theorem cell_grown {w w' : World} {row : Option Nat} (hg : w.grownBy w' row) {p : Addr} {v : Value} (hr : row ≠ some p.block) (hc : w.cell? p = some v) : w'.cell? p = some v := by
  rw [World.cell?_of_block (w := w) (hg.block p.block (lt_of_cell hc) (Ne.symm hr))]; exact hc
theorem Rdr.grown {bs ba bc bt bk B : Nat} {s : ByteArray} {i : Nat} {w w' : World} {row : Option Nat} (R : Rdr bs ba bc bt bk s i w) (hg : w.grownBy w' row) (hr : ∀ k, row = some k → B ≤ k) (l1 : bs < B) (l2 : ba < B) (l3 : bc < B) (l4 : bt < B) (l5 : bk < B) : Rdr bs ba bc bt bk s i w' := by
  have f : ∀ {b : Nat}, b < B → row ≠ some b := fun {b} hb e => by have := hr b e; omega
  exact ⟨cell_grown hg (f l1) R.hs, cell_grown hg (f l2) R.ha, by rw [World.frozen?_of_block (w := w) (hg.block ba R.lt (Ne.symm (f l2)))]; exact R.hf, cell_grown hg (f l3) R.hc, cell_grown hg (f l4) R.ht, cell_grown hg (f l5) R.hk, R.ns, R.nc, R.nt, R.nk⟩

set_option maxRecDepth 100000 in
set_option maxHeartbeats 2000000 in
theorem lex_any (s : ByteArray) (w : World) (pT : Addr) (ev : Value) (hs : s.size ≤ 6000) (hT : w.cell? ⟨2, 0, none⟩ = some (.iface 235 (.pointer (some pT)))) (hv : w.cell? ⟨11, 0, none⟩ = some ev) (hev : ev = .nilIface ∨ ∃ te pe, ev = .iface te pe) :
    Calls Tryz.prog 11 #[.string s] w fun e w' => Below w.heap.size w w' ∧
      ((∃ (l : List Tk) (v : Value), Lexes s 0 l none ∧ e = .returned (.tuple #[v, .nilIface]) ∧ w'.ownsRow w.heap.size 37 3 v l.length (tkCells l)) ∨
       (∃ (l : List Tk) (j p : Nat), Lexes s 0 l (some j) ∧ e = .returned (.tuple #[.slice none 0 0, .iface 64 (.pointer (some ⟨p, 0, none⟩))]) ∧ w'.cell? ⟨p, 0, none⟩ = some (.int .i64 j) ∧ w'.cell? ⟨p, 0 + 1, none⟩ = some (.iface 235 (.pointer (some pT))))) := by
  obtain ⟨i0, hi0, hz0, hz1, hz2⟩ := info_parts Tryz.infoTok
  go_enter Tryz.func11, Tryz.ntmps11
  go_wp2_with fail
  refine (reader_any s _).mono ?_
  rintro e w1 ⟨bs, ba, bc, bt, bk, rfl, hba, R, hb⟩
  go_wp2
  go_loopw [5] (fun v wr => ∃ (l : List Tk) (i : Nat), Reads s l i ∧ wr.ownsRow w1.heap.size 37 3 v l.length (tkCells l) ∧ Rdr bs ba bc bt bk s i wr ∧ Below w.heap.size w wr ∧ w1.heap.size ≤ wr.heap.size) (fun _ wr => s.size - cellNat wr ba)
  case atStart => exact ⟨[], 0, .start, ⟨rfl, Or.inl ⟨rfl, rfl⟩⟩, R, hb, Nat.le_refl _⟩
  case round =>
    obtain ⟨l, i, hrd, hown, Rr, hbr, hsz⟩ := hrel
    have hle := hrd.le
    have hvr := cell_keep hbr hv
    have hTr := cell_keep hbr hT
    have hgb : 11 ≠ ba := by have := lt_of_cell hv; have h2 : 11 < w.heap.size := this; omega
    go_wp2_with fail
    refine (next_any bs ba bc bt bk s i _ Rr hle.1 hs ev hvr hev hgb).mono ?_
    rintro e w2 ⟨j, n, kind, text, St, hcom, T, rfl, R2, hm2⟩
    have hba2 : ba < w1.heap.size := R.lt
    have hown2 := ownsRow_mv hown hm2 hba2
    have hT2 := hm2.cell (p := ⟨2, 0, none⟩) (by have := lt_of_cell hT; have h2 : 2 < w.heap.size := this; show 2 ≠ ba; omega) hTr
    have hb2 : Below w.heap.size w w2 := ⟨hm2.os.trans hbr.os, hm2.tape.trans hbr.tape, hm2.output.trans hbr.output, Nat.le_trans hbr.size hm2.size, fun k hk => (hm2.block k (Nat.lt_of_lt_of_le hk hbr.size) (by intro e; injection e with e; omega)).trans (hbr.block k hk)⟩
    have lT := lt_of_cell hT2
    have hsz2 : w1.heap.size ≤ w2.heap.size := Nat.le_trans hsz hm2.size
    clear hvr hTr hown
    have hnb : ((w2.alloc (.cells #[.string kind, .string text, .int .i64 j] 37)).alloc (.cells #[.string kind, .string text, .int .i64 j] 37)).heap[w2.heap.size + 1]? = some (.cells #[.string kind, .string text, .int .i64 j] 37 (0, 0)) := by
      show ((w2.heap.push _).push _)[w2.heap.size + 1]? = _
      rw [Array.getElem?_push, if_pos (by simp)]
    have hn63 : l.length + 1 ≤ maxLen := by unfold maxLen; omega
    have hby : (l.length + 1) * 40 ≤ 140737488355328 := by omega
    by_cases h0 : kind.toList.isEmpty = true
    · clear hnb hn63 hby
      go_wp2
      go_region
      all_goals
        go_wp2
        go_ret2
        refine ⟨((hb2.alloc hb2.size _).alloc (Nat.le_trans hb2.size (by simp)) _).drew, Or.inr ⟨_, j, w2.heap.size + 1, hrd.lexes (.bad i j n kind text St hcom T h0), rfl, ?_, ?_⟩⟩
        · show ((w2.alloc _).alloc _).cell? _ = _
          rw [World.cell?_alloc_at _ _ _ _ (by simp)]; rfl
        · show ((w2.alloc _).alloc _).cell? _ = _
          rw [World.cell?_alloc_at _ _ _ _ (by simp)]; rfl
    · have h0' : kind.toList.isEmpty = false := by simpa using h0
      clear h0
      have HN := World.news_of_block hnb
      have HN' : Hid _ := HN
      clear HN hnb
      have hrow : ∀ k, u5.ownBlock = some k → w1.heap.size ≤ k ∧ k < w2.heap.size := fun k hk => ownsRow_block hown2 hk
      have hw2k : u5.ownBlock ≠ some w2.heap.size := fun e => by have := (hrow _ e).2; omega
      have hkc : ((w2.alloc (.cells #[.string kind, .string text, .int .i64 j] 37)).alloc (.cells #[.string kind, .string text, .int .i64 j] 37)).cell? ⟨w2.heap.size, 0, none⟩ = some (.string kind) := by
        rw [World.cell?_alloc_past _ _ _ (by simp), World.cell?_alloc_at _ _ _ _ rfl]; rfl
      have l1 := lt_of_cell R.hs
      have l3 := lt_of_cell R.hc
      have l4 := lt_of_cell R.ht
      have l5 := lt_of_cell R.hk
      by_cases h1 : (kind.toList == [101, 110, 100]) = true
      · go_wp2_with (at_builtin; refine wpList_append_lies _ rfl _ _ _ rfl w1.heap.size 37 i0 _ 3 40 Tryz.underlying30 hi0 hz0 hz1 hz2 rfl (by omega) _ l.length (tkCells l) rfl ((hown2.alloc _).alloc _) ⟨w2.heap.size + 1, 0, none⟩ 1 1 [.string kind, .string text, .int .i64 j] rfl rfl HN'.out (by simp [Value.oneCell']) (by omega) hn63 hby (by simp; omega) (w2.heap.size + 1 + 1) (by simp) ?_; intro g cap w3 hown3 hgrow hat hlt; have hk3 := cell_grown (p := ⟨w2.heap.size, 0, none⟩) hgrow hw2k hkc)
        go_ret2
        refine ⟨((hb2.alloc hb2.size _).alloc (Nat.le_trans hb2.size (by simp)) _).grown hgrow (Nat.le_trans hb2.size (by simp; omega)) (fun k hk => Nat.le_trans hb.size (hrow k hk).1), Or.inl ⟨l ++ [⟨kind, text, j⟩], _, hrd.lexes (.fin i j n kind text St hcom T h0' h1), rfl, ?_⟩⟩
        rw [tkCells_snoc, List.length_append]
        exact ownsRow_low hown3 hb.size
      · have h1' : (kind.toList == [101, 110, 100]) = false := by simpa using h1
        clear h1
        go_wp2_with (at_builtin; refine wpList_append_lies _ rfl _ _ _ rfl w1.heap.size 37 i0 _ 3 40 Tryz.underlying30 hi0 hz0 hz1 hz2 rfl (by omega) _ l.length (tkCells l) rfl ((hown2.alloc _).alloc _) ⟨w2.heap.size + 1, 0, none⟩ 1 1 [.string kind, .string text, .int .i64 j] rfl rfl HN'.out (by simp [Value.oneCell']) (by omega) hn63 hby (by simp; omega) (w2.heap.size + 1 + 1) (by simp) ?_; intro g cap w3 hown3 hgrow hat hlt; have hk3 := cell_grown (p := ⟨w2.heap.size, 0, none⟩) hgrow hw2k hkc)
        have R3 := ((R2.alloc _).alloc _).grown hgrow (fun k hk => (hrow k hk).1) l1 hba2 l3 l4 l5
        have hp := T.pos h0' h1'
        have hl2 := T.le St.le
        have hij := St.skips.le
        have hn1 := Rr.nat
        have hn2 := R3.nat
        refine ⟨⟨l ++ [⟨kind, text, j⟩], j + n, .tok l i j n kind text hrd St hcom T h0' h1', ?_, R3, ((hb2.alloc hb2.size _).alloc (Nat.le_trans hb2.size (by simp)) _).grown hgrow (Nat.le_trans hb2.size (by simp; omega)) (fun k hk => Nat.le_trans hb.size (hrow k hk).1), Nat.le_trans hsz2 (Nat.le_trans (by simp; omega) hgrow.size)⟩, ?_⟩
        · rw [tkCells_snoc, List.length_append]
          exact hown3
        · rw [hn1, hn2]; omega
end Go.Proofs.YtomgimfmcfjhdaaGreatDoor
