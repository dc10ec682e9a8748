/-
  package tree's WRITER: bare of name, true, false, int, call and neg, to the byte, by what is known of terms that are smaller.
-/
import Derived.Test.YtgbpccipdcajgaaGreatDoorQ23
import Derived.Test.YtgbpccipdcajgaaGreatDoorQ22
import Derived.Test.YtgbpccipdcajgaaGreatDoorQ24
import Derived.Test.YtgbpccipdcajgaaGreatDoorQ30
namespace Go.Proofs.YtgbpccipdcajgaaGreatDoor
open Go.RowKit
attribute [local go_sem ↓] Go.wp_at_zero Go.wp_at_succ
theorem WStX.below {B b d : Nat} {pS : Addr} {lx : List UInt8} {w w' : World} (h : WStX B b d pS lx w) (hb : Below w.heap.size w w') : WStX B b d pS lx w' := by
 have hl := h.lt
 have hB := h.le
 exact h.next (hb.mono (by omega)) (h.wt.below hb) h.len
theorem args_tx : ∀ (l : List Ex) (i : Nat), lstX argX i (twP [] l) = lstX (fun i a => catX (sepX [44, 32] i) (tw 0 a)) i l
 | [], _ => by rw [twP]; rfl
 | e :: es, i => by
  rw [twP]
  show catX (argX i (tw 0 e)) (lstX argX (i + 1) (twP [] es)) = _
  rw [args_tx es (i + 1)]
  rfl
set_option maxRecDepth 100000 in
set_option maxHeartbeats 1000000 in
theorem xbare_name (K : Prop) (B b : Nat) (pS : Addr) (op : ByteArray) (n : Int) (s : ByteArray) (o : Option Addr) (m c : Nat) (lx : List UInt8) (w : World) (d : Nat) (h : WStX B b d pS lx w) (lv : Int) (sp : Value) (ts : List Tx) (tt : op.toList = [110, 97, 109, 101]) :
  Calls Tryz.prog 162 #[.pointer (some ⟨b, 0, none⟩), .agg #[.string op, .int .i64 n, .string s, .slice o m c], .agg #[.int .i64 lv, sp]] w fun e w' => WAnyX K B b d pS lx (bareX op n s ts) w e w' := by
 have HBX : bareX op n s ts = some s.data.toList := by
  rw [bareX, if_neg (by rw [tt]; decide), if_neg (by rw [tt]; decide), if_neg (by rw [tt]; decide), if_pos tt]
 rw [HBX]
 clear HBX
 have hmf : ∀ (fn : Fn) (first cap : Array Value) (w : World), (Instr.makeFunc fn first cap).run Tryz.prog w = .ok (.func fn first cap) w := fun _ _ _ _ => rfl
 have hlt := h.lt
 have hle := h.le
 have s0 : WStX B b d pS lx (((w.alloc (.cells #[.pointer (some ⟨b, 0, none⟩)] 110)).alloc (teObj op n s (.slice o m c))).alloc (shObj lv sp)) := ((h.alloc _).alloc _).alloc _
 have b0 : Below B w (((w.alloc (.cells #[.pointer (some ⟨b, 0, none⟩)] 110)).alloc (teObj op n s (.slice o m c))).alloc (shObj lv sp)) := (((Below.refl _ _).alloc (by omega) _).alloc (by simp; omega) _).alloc (by simp; omega) _
 have k0 : Kept b w (((w.alloc (.cells #[.pointer (some ⟨b, 0, none⟩)] 110)).alloc (teObj op n s (.slice o m c))).alloc (shObj lv sp)) := (((Lib.OthersKept.refl _ _ _).alloc _).alloc _).alloc _
 go_enter Tryz.func162, Tryz.ntmps162
 go_wp2_with fail
 refine (put_newX K B b d pS _ _ [s] s.data.toList (by simp [flat]) _ 1 (by first | rfl | simp) rfl s0 (by decide) _ rfl).mono ?_
 rintro e v1 ⟨c1, j1, ⟨l1, rfl, u1, g1, x1, q1, rfl⟩ | ⟨ht, hr⟩⟩
 ·go_wp2
  go_end0
  exact ⟨b0.trans c1, k0.trans j1, Or.inl ⟨_, rfl, u1, g1, (Ok.this q1)⟩⟩
 ·unfold WThrew at ht
  subst ht
  go_wp2
  exact ⟨rfl, b0.trans c1, k0.trans j1, Or.inr ⟨rfl, hr⟩⟩
set_option maxRecDepth 100000 in
set_option maxHeartbeats 1000000 in
theorem xbare_anyTrue (K : Prop) (B b : Nat) (pS : Addr) (op : ByteArray) (n : Int) (s : ByteArray) (o : Option Addr) (m c : Nat) (lx : List UInt8) (w : World) (d : Nat) (h : WStX B b d pS lx w) (lv : Int) (sp : Value) (ts : List Tx) (tt : op.toList = [116, 114, 117, 101]) :
  Calls Tryz.prog 162 #[.pointer (some ⟨b, 0, none⟩), .agg #[.string op, .int .i64 n, .string s, .slice o m c], .agg #[.int .i64 lv, sp]] w fun e w' => WAnyX K B b d pS lx (bareX op n s ts) w e w' := by
 have HBX : bareX op n s ts = some op.data.toList := by
  rw [bareX, if_neg (by rw [tt]; decide), if_pos tt]
 rw [HBX]
 clear HBX
 have hmf : ∀ (fn : Fn) (first cap : Array Value) (w : World), (Instr.makeFunc fn first cap).run Tryz.prog w = .ok (.func fn first cap) w := fun _ _ _ _ => rfl
 have hlt := h.lt
 have hle := h.le
 have s0 : WStX B b d pS lx (((w.alloc (.cells #[.pointer (some ⟨b, 0, none⟩)] 110)).alloc (teObj op n s (.slice o m c))).alloc (shObj lv sp)) := ((h.alloc _).alloc _).alloc _
 have b0 : Below B w (((w.alloc (.cells #[.pointer (some ⟨b, 0, none⟩)] 110)).alloc (teObj op n s (.slice o m c))).alloc (shObj lv sp)) := (((Below.refl _ _).alloc (by omega) _).alloc (by simp; omega) _).alloc (by simp; omega) _
 have k0 : Kept b w (((w.alloc (.cells #[.pointer (some ⟨b, 0, none⟩)] 110)).alloc (teObj op n s (.slice o m c))).alloc (shObj lv sp)) := (((Lib.OthersKept.refl _ _ _).alloc _).alloc _).alloc _
 go_enter Tryz.func162, Tryz.ntmps162
 go_wp2_with fail
 refine (put_newX K B b d pS _ _ [op] op.data.toList (by simp [flat]) _ 1 (by first | rfl | simp) rfl s0 (by decide) _ rfl).mono ?_
 rintro e v1 ⟨c1, j1, ⟨l1, rfl, u1, g1, x1, q1, rfl⟩ | ⟨ht, hr⟩⟩
 ·go_wp2
  go_end0
  exact ⟨b0.trans c1, k0.trans j1, Or.inl ⟨_, rfl, u1, g1, (Ok.this q1)⟩⟩
 ·unfold WThrew at ht
  subst ht
  go_wp2
  exact ⟨rfl, b0.trans c1, k0.trans j1, Or.inr ⟨rfl, hr⟩⟩
set_option maxRecDepth 100000 in
set_option maxHeartbeats 1000000 in
theorem xbare_anyFalse (K : Prop) (B b : Nat) (pS : Addr) (op : ByteArray) (n : Int) (s : ByteArray) (o : Option Addr) (m c : Nat) (lx : List UInt8) (w : World) (d : Nat) (h : WStX B b d pS lx w) (lv : Int) (sp : Value) (ts : List Tx) (tt : op.toList = [102, 97, 108, 115, 101]) :
  Calls Tryz.prog 162 #[.pointer (some ⟨b, 0, none⟩), .agg #[.string op, .int .i64 n, .string s, .slice o m c], .agg #[.int .i64 lv, sp]] w fun e w' => WAnyX K B b d pS lx (bareX op n s ts) w e w' := by
 have HBX : bareX op n s ts = some op.data.toList := by
  rw [bareX, if_neg (by rw [tt]; decide), if_neg (by rw [tt]; decide), if_pos tt]
 rw [HBX]
 clear HBX
 have hmf : ∀ (fn : Fn) (first cap : Array Value) (w : World), (Instr.makeFunc fn first cap).run Tryz.prog w = .ok (.func fn first cap) w := fun _ _ _ _ => rfl
 have hlt := h.lt
 have hle := h.le
 have s0 : WStX B b d pS lx (((w.alloc (.cells #[.pointer (some ⟨b, 0, none⟩)] 110)).alloc (teObj op n s (.slice o m c))).alloc (shObj lv sp)) := ((h.alloc _).alloc _).alloc _
 have b0 : Below B w (((w.alloc (.cells #[.pointer (some ⟨b, 0, none⟩)] 110)).alloc (teObj op n s (.slice o m c))).alloc (shObj lv sp)) := (((Below.refl _ _).alloc (by omega) _).alloc (by simp; omega) _).alloc (by simp; omega) _
 have k0 : Kept b w (((w.alloc (.cells #[.pointer (some ⟨b, 0, none⟩)] 110)).alloc (teObj op n s (.slice o m c))).alloc (shObj lv sp)) := (((Lib.OthersKept.refl _ _ _).alloc _).alloc _).alloc _
 go_enter Tryz.func162, Tryz.ntmps162
 go_wp2_with fail
 refine (put_newX K B b d pS _ _ [op] op.data.toList (by simp [flat]) _ 1 (by first | rfl | simp) rfl s0 (by decide) _ rfl).mono ?_
 rintro e v1 ⟨c1, j1, ⟨l1, rfl, u1, g1, x1, q1, rfl⟩ | ⟨ht, hr⟩⟩
 ·go_wp2
  go_end0
  exact ⟨b0.trans c1, k0.trans j1, Or.inl ⟨_, rfl, u1, g1, (Ok.this q1)⟩⟩
 ·unfold WThrew at ht
  subst ht
  go_wp2
  exact ⟨rfl, b0.trans c1, k0.trans j1, Or.inr ⟨rfl, hr⟩⟩
set_option maxRecDepth 100000 in
set_option maxHeartbeats 1000000 in
theorem xbare_int (K : Prop) (B b : Nat) (pS : Addr) (op : ByteArray) (n : Int) (s : ByteArray) (o : Option Addr) (m c : Nat) (hn0 : 0 ≤ n) (hn1 : n ≤ 127) (lx : List UInt8) (w : World) (d : Nat) (h : WStX B b d pS lx w) (lv : Int) (sp : Value) (ts : List Tx) (tt : op.toList = [105, 110, 116]) :
  Calls Tryz.prog 162 #[.pointer (some ⟨b, 0, none⟩), .agg #[.string op, .int .i64 n, .string s, .slice o m c], .agg #[.int .i64 lv, sp]] w fun e w' => WAnyX K B b d pS lx (bareX op n s ts) w e w' := by
 have HBX : bareX op n s ts = some (Lib.itoa n) := by
  rw [bareX, if_pos tt]
 rw [HBX]
 clear HBX
 have hmf : ∀ (fn : Fn) (first cap : Array Value) (w : World), (Instr.makeFunc fn first cap).run Tryz.prog w = .ok (.func fn first cap) w := fun _ _ _ _ => rfl
 have hlt := h.lt
 have hle := h.le
 have s0 : WStX B b d pS lx (((w.alloc (.cells #[.pointer (some ⟨b, 0, none⟩)] 110)).alloc (teObj op n s (.slice o m c))).alloc (shObj lv sp)) := ((h.alloc _).alloc _).alloc _
 have b0 : Below B w (((w.alloc (.cells #[.pointer (some ⟨b, 0, none⟩)] 110)).alloc (teObj op n s (.slice o m c))).alloc (shObj lv sp)) := (((Below.refl _ _).alloc (by omega) _).alloc (by simp; omega) _).alloc (by simp; omega) _
 have k0 : Kept b w (((w.alloc (.cells #[.pointer (some ⟨b, 0, none⟩)] 110)).alloc (teObj op n s (.slice o m c))).alloc (shObj lv sp)) := (((Lib.OthersKept.refl _ _ _).alloc _).alloc _).alloc _
 have hi : Calls Tryz.prog 166 #[.int .i64 n] (World.drew (((w.alloc (.cells #[.pointer (some ⟨b, 0, none⟩)] 110)).alloc (teObj op n s (.slice o m c))).alloc (shObj lv sp))) fun e w' => e = .returned (.string ⟨(Lib.itoa n).toArray⟩) ∧ Below (((w.alloc (.cells #[.pointer (some ⟨b, 0, none⟩)] 110)).alloc (teObj op n s (.slice o m c))).alloc (shObj lv sp)).heap.size (((w.alloc (.cells #[.pointer (some ⟨b, 0, none⟩)] 110)).alloc (teObj op n s (.slice o m c))).alloc (shObj lv sp)) w' := by
  refine (Tryz.strconv_Itoa n (by omega) (by omega) (World.drew (((w.alloc (.cells #[.pointer (some ⟨b, 0, none⟩)] 110)).alloc (teObj op n s (.slice o m c))).alloc (shObj lv sp))) (show TabAt (World.drew (((w.alloc (.cells #[.pointer (some ⟨b, 0, none⟩)] 110)).alloc (teObj op n s (.slice o m c))).alloc (shObj lv sp))) from s0.tab)).mono ?_
  rintro e w' ⟨rfl, k, os, rfl⟩
  exact ⟨rfl, rfl, rfl, rfl, by simp [Sort.grow], fun j hj => by simp only [Sort.grow]; exact Array.getElem?_append_left hj⟩
 have HI : Hid (Calls Tryz.prog 166 #[.int .i64 n] (World.drew (((w.alloc (.cells #[.pointer (some ⟨b, 0, none⟩)] 110)).alloc (teObj op n s (.slice o m c))).alloc (shObj lv sp))) fun e w' => e = .returned (.string ⟨(Lib.itoa n).toArray⟩) ∧ Below (((w.alloc (.cells #[.pointer (some ⟨b, 0, none⟩)] 110)).alloc (teObj op n s (.slice o m c))).alloc (shObj lv sp)).heap.size (((w.alloc (.cells #[.pointer (some ⟨b, 0, none⟩)] 110)).alloc (teObj op n s (.slice o m c))).alloc (shObj lv sp)) w') := hi
 clear hi
 have HP : Hid ((((w.alloc (.cells #[.pointer (some ⟨b, 0, none⟩)] 110)).alloc (teObj op n s (.slice o m c))).alloc (shObj lv sp)).cell? ⟨w.heap.size, 0, none⟩ = some (.pointer (some ⟨b, 0, none⟩))) := (tblk1 (alloc_row (shObj lv sp) (alloc_row (teObj op n s (.slice o m c)) (heap_alloc_new w (.cells #[.pointer (some ⟨b, 0, none⟩)] 110))))).1
 go_enter Tryz.func162, Tryz.ntmps162
 go_wp2_with fail
 go_region_law (first | (refine step_call rfl 166 #[.int .i64 n] (by kernel_rfl) ?_; refine HI.out.mono ?_; rintro e v0 ⟨rfl, hb0⟩; have y0 := cell_keep hb0 HP.out; have hz0 : w.heap.size < v0.heap.size := lt_of_cell y0; have sv := s0.below hb0; dsimp only) | (refine step_call rfl 118 #[.pointer (some ⟨b, 0, none⟩), .slice (some ⟨v0.heap.size, 0, none⟩) 1 1] (by kernel_rfl) ?_; refine (put_newX K B b d pS _ v0 [⟨(Lib.itoa n).toArray⟩] (Lib.itoa n) (by simp [flat]) v0.heap.size 1 rfl rfl sv (by decide) _ rfl).mono ?_; rintro e v1 ⟨c1, j1, h4⟩; rcases h4 with ⟨l1, rfl, u1, g1, hq⟩ | ⟨ht, hr⟩; rotate_left; (unfold WThrew at ht; subst ht; exact ⟨rfl, (b0.trans (hb0.mono (by simp; omega))).trans c1, (k0.trans (Kept.below hb0)).trans j1, Or.inr ⟨rfl, hr⟩⟩); dsimp only))
 all_goals
  go_wp2
  go_end0
  exact ⟨(b0.trans (hb0.mono (by simp; omega))).trans c1, (k0.trans (Kept.below hb0)).trans j1, Or.inl ⟨l1, rfl, u1, g1, hq⟩⟩
set_option maxRecDepth 100000 in
set_option maxHeartbeats 1000000 in
theorem xbare_call (K : Prop) (B b : Nat) (pS : Addr) (m : Nat) (IH : TermX K B b pS m) (op : ByteArray) (n : Int) (s : ByteArray) (l : List Ex) (hm : SizeOf.sizeOf l < m + 1) (lx : List UInt8) (w : World) (d : Nat) (o : Option Addr) (c : Nat) (ys : List Value) (hd : d ≤ 6000) (hK : 6000 < d + dptL l → K) (h : WStX B b d pS lx w) (h1 : RowAt w (fun k => k < B) 4 (.slice o l.length c) l.length ys) (h2 : ExIn w (fun k => k < B) l ys) (lv : Int) (sp : Value) (tt : op.toList = [99, 97, 108, 108]) :
  Calls Tryz.prog 162 #[.pointer (some ⟨b, 0, none⟩), .agg #[.string op, .int .i64 n, .string s, .slice o l.length c], .agg #[.int .i64 lv, sp]] w fun e w' => WAnyX K B b d pS lx (bareX op n s (twP [] l)) w e w' := by
 have HBX : bareX op n s (twP [] l) = catX (some (s.data.toList ++ [40])) (catX (lstX (fun i a => catX (sepX [44, 32] i) (tw 0 a)) 0 l) (some [41])) := by
  rw [bareX, if_neg (by rw [tt]; decide), if_neg (by rw [tt]; decide), if_neg (by rw [tt]; decide), if_neg (by rw [tt]; decide), if_pos tt, args_tx]
 rw [HBX]
 clear HBX
 have hmf : ∀ (fn : Fn) (first cap : Array Value) (w : World), (Instr.makeFunc fn first cap).run Tryz.prog w = .ok (.func fn first cap) w := fun _ _ _ _ => rfl
 have hlt := h.lt
 have hle := h.le
 have s0 : WStX B b d pS lx (((w.alloc (.cells #[.pointer (some ⟨b, 0, none⟩)] 110)).alloc (teObj op n s (.slice o l.length c))).alloc (shObj lv sp)) := ((h.alloc _).alloc _).alloc _
 have b0 : Below B w (((w.alloc (.cells #[.pointer (some ⟨b, 0, none⟩)] 110)).alloc (teObj op n s (.slice o l.length c))).alloc (shObj lv sp)) := (((Below.refl _ _).alloc (by omega) _).alloc (by simp; omega) _).alloc (by simp; omega) _
 have k0 : Kept b w (((w.alloc (.cells #[.pointer (some ⟨b, 0, none⟩)] 110)).alloc (teObj op n s (.slice o l.length c))).alloc (shObj lv sp)) := (((Lib.OthersKept.refl _ _ _).alloc _).alloc _).alloc _
 have HT : Hid (Calls Tryz.prog 173 #[.pointer (some ⟨b, 0, none⟩), .agg #[.string op, .int .i64 n, .string s, .slice o l.length c]] (((w.alloc (.cells #[.pointer (some ⟨b, 0, none⟩)] 110)).alloc (teObj op n s (.slice o l.length c))).alloc (shObj lv sp)) fun e w' => WAnyX K B b d pS lx (catX (some (s.data.toList ++ [40])) (catX (lstX (fun i a => catX (sepX [44, 32] i) (tw 0 a)) 0 l) (some [41]))) (((w.alloc (.cells #[.pointer (some ⟨b, 0, none⟩)] 110)).alloc (teObj op n s (.slice o l.length c))).alloc (shObj lv sp)) e w') := wcall_x K B b pS m IH op n s l hm lx (((w.alloc (.cells #[.pointer (some ⟨b, 0, none⟩)] 110)).alloc (teObj op n s (.slice o l.length c))).alloc (shObj lv sp)) d o c ys hd hK s0 (below_row h1 b0) (below_ex h2 b0)
 clear IH h1 h2
 go_enter Tryz.func162, Tryz.ntmps162
 go_wp2_with fail
 refine HT.out.mono ?_
 rintro e v1 ⟨c1, j1, ⟨l1, rfl, u1, g1, x1, q1, rfl⟩ | ⟨ht, hr⟩⟩
 ·go_wp2
  go_end0
  exact ⟨b0.trans c1, k0.trans j1, Or.inl ⟨_, rfl, u1, g1, (Ok.this q1)⟩⟩
 ·unfold WThrew at ht
  subst ht
  go_wp2
  exact ⟨rfl, b0.trans c1, k0.trans j1, Or.inr ⟨rfl, hr⟩⟩
set_option maxRecDepth 100000 in
set_option maxHeartbeats 1000000 in
theorem xbare_neg (K : Prop) (B b : Nat) (pS : Addr) (m : Nat) (IH : TermX K B b pS m) (op : ByteArray) (n : Int) (s : ByteArray) (l : List Ex) (hm : SizeOf.sizeOf l < m + 1) (lx : List UInt8) (w : World) (d : Nat) (o : Option Addr) (c : Nat) (ys : List Value) (hd : d ≤ 6000) (hK : 6000 < d + dptL l → K) (h : WStX B b d pS lx w) (h1 : RowAt w (fun k => k < B) 4 (.slice o l.length c) l.length ys) (h2 : ExIn w (fun k => k < B) l ys) (lv : Int) (ps : List Nat) (q : Nat) (r4 : w.heap[q]? = some (.cells (intCells ps).toArray 3 (0, 0))) (hpl : ps.length = l.length) (hn : 1 ≤ l.length) (hps : ps[0]'(by omega) = 7) (tt : op.toList = [110, 101, 103]) :
  Calls Tryz.prog 162 #[.pointer (some ⟨b, 0, none⟩), .agg #[.string op, .int .i64 n, .string s, .slice o l.length c], .agg #[.int .i64 lv, .slice (some ⟨q, 0, none⟩) ps.length ps.length]] w fun e w' => WAnyX K B b d pS lx (bareX op n s (twP (lvsOf op.toList l) l)) w e w' := by
 have hmf : ∀ (fn : Fn) (first cap : Array Value) (w : World), (Instr.makeFunc fn first cap).run Tryz.prog w = .ok (.func fn first cap) w := fun _ _ _ _ => rfl
 have hlt := h.lt
 have hle := h.le
 have s0 : WStX B b d pS lx (((w.alloc (.cells #[.pointer (some ⟨b, 0, none⟩)] 110)).alloc (teObj op n s (.slice o l.length c))).alloc (shObj lv (.slice (some ⟨q, 0, none⟩) ps.length ps.length))) := ((h.alloc _).alloc _).alloc _
 have b0 : Below B w (((w.alloc (.cells #[.pointer (some ⟨b, 0, none⟩)] 110)).alloc (teObj op n s (.slice o l.length c))).alloc (shObj lv (.slice (some ⟨q, 0, none⟩) ps.length ps.length))) := (((Below.refl _ _).alloc (by omega) _).alloc (by simp; omega) _).alloc (by simp; omega) _
 have k0 : Kept b w (((w.alloc (.cells #[.pointer (some ⟨b, 0, none⟩)] 110)).alloc (teObj op n s (.slice o l.length c))).alloc (shObj lv (.slice (some ⟨q, 0, none⟩) ps.length ps.length))) := (((Lib.OthersKept.refl _ _ _).alloc _).alloc _).alloc _
 have hi : 0 < l.length := by omega
 have hp : 0 < ps.length := by omega
 obtain ⟨op', n', s', es, oo, cc, zs, e, x0, x1, x2, x3, t1, t2⟩ := h2.at hi
 obtain ⟨p, f, rfl, _, g⟩ := row_get h1 (by have := h1.1; omega)
 have x0 := g _ _ x0
 have x1 := g _ _ x1
 have x2 := g _ _ x2
 have x3 := g _ _ x3
 simp at x0 x1 x2 x3
 have hpw : p < w.heap.size := lt_of_cell x0
 have hsz := size_part hi e
 have hdp := dpt_part l 0 hi
 rw [e] at hdp
 have HBX : bareX op n s (twP (lvsOf op.toList l) l) = catX (some [45]) (tw (if op'.toList = [110, 101, 103] then 8 else ps[0]) (.mk op' n' s' es)) := by
  have hv : (lvsOf op.toList l).getD 0 0 = if op'.toList = [110, 101, 103] then 8 else 7 := by
   unfold lvsOf
   rw [if_pos tt]
   match l, hi, e with
   | a :: r, _, e =>
    have e' : a = .mk op' n' s' es := e
    subst e'
    show (if op'.toList = [110, 101, 103] then [8] else [7] : List Nat).getD 0 0 = _
    split <;> rfl
  rw [bareX, if_neg (by rw [tt]; decide), if_neg (by rw [tt]; decide), if_neg (by rw [tt]; decide), if_neg (by rw [tt]; decide), if_neg (by rw [tt]; decide), if_neg (by rw [tt]; decide), if_pos tt, twP_getD hi, hv, e, hps]
 obtain ⟨tX, hX⟩ : ∃ t : Tx, t = catX (some [45]) (tw (if op'.toList = [110, 101, 103] then 8 else ps[0]) (.mk op' n' s' es)) := ⟨_, rfl⟩
 rw [HBX, ← hX]
 clear HBX
 have i1 : (0 : Int) < (l.length : Int) := by omega
 have i2 : (0 : Int) < (ps.length : Int) := by omega
 have y4 : w.cell? ⟨q, 0, none⟩ = some (.int .i64 (ps[0] : Nat)) := by
  rw [cell_of_row _ q 0 _ _ _ r4]; simpa using intCells_at hp
 have hqw : q < w.heap.size := lt_of_cell y4
 have t1 := below_row t1 b0
 have t2 := below_ex t2 b0
 have z1 := (tblk1 (alloc_row (shObj lv (.slice (some ⟨q, 0, none⟩) ps.length ps.length)) (alloc_row (teObj op n s (.slice (some ⟨p, f, none⟩) l.length c)) (heap_alloc_new w (.cells #[.pointer (some ⟨b, 0, none⟩)] 110))))).1
 have z2 := (blk4 (alloc_row (shObj lv (.slice (some ⟨q, 0, none⟩) ps.length ps.length)) (two_new w (.cells #[.pointer (some ⟨b, 0, none⟩)] 110) (teObj op n s (.slice (some ⟨p, f, none⟩) l.length c))))).2.2.2.1
 have z3r : (World.heap (((w.alloc (.cells #[.pointer (some ⟨b, 0, none⟩)] 110)).alloc (teObj op n s (.slice (some ⟨p, f, none⟩) l.length c))).alloc (shObj lv (.slice (some ⟨q, 0, none⟩) ps.length ps.length))))[w.heap.size + 1 + 1]? = some (shObj lv (.slice (some ⟨q, 0, none⟩) ps.length ps.length)) := heap_alloc_new' (by simp) _
 have z3 := (blk2 z3r).2.1
 clear z3r
 have a1 : ∀ (x : World) (ob : Obj) (r : Addr) (v : Value), x.cell? r = some v → (x.alloc ob).cell? r = some v := fun x ob r v hh => by rw [World.cell?_alloc_lt _ _ _ (lt_of_cell hh)]; exact hh
 have al : ∀ (r : Addr) (v : Value), w.cell? r = some v → World.cell? (((w.alloc (.cells #[.pointer (some ⟨b, 0, none⟩)] 110)).alloc (teObj op n s (.slice (some ⟨p, f, none⟩) l.length c))).alloc (shObj lv (.slice (some ⟨q, 0, none⟩) ps.length ps.length))) r = some v := fun r v hh => a1 _ _ _ _ (a1 _ _ _ _ (a1 _ _ _ _ hh))
 have x0 := al _ _ x0
 have x1 := al _ _ x1
 have x2 := al _ _ x2
 have x3 := al _ _ x3
 have y4 := al _ _ y4
 clear al a1
 have Hr : Hid (Calls Tryz.prog 174 #[.pointer (some ⟨b, 0, none⟩), .agg #[.string op', .int .i64 n', .string s', .slice oo es.length cc], .int .i64 (ps[0] : Nat)] (World.drew (((w.alloc (.cells #[.pointer (some ⟨b, 0, none⟩)] 110)).alloc (teObj op n s (.slice (some ⟨p, f, none⟩) l.length c))).alloc (shObj lv (.slice (some ⟨q, 0, none⟩) ps.length ps.length)))) fun e w' => WAnyX K B b d pS lx tX (World.drew (((w.alloc (.cells #[.pointer (some ⟨b, 0, none⟩)] 110)).alloc (teObj op n s (.slice (some ⟨p, f, none⟩) l.length c))).alloc (shObj lv (.slice (some ⟨q, 0, none⟩) ps.length ps.length)))) e w') := hX ▸ wneg_x K B b pS m IH op' n' s' es (by omega) lx _ d oo cc zs ps[0] hd (fun hh => hK (by omega)) ⟨s0.wt, s0.len, s0.err, s0.low, s0.tab, s0.low2⟩ t1 (t2.keep (Stays.below (Below.drew (Below.refl _ _)) (fun _ hk => hk)))
 clear hX g r4 h1 h2 t1 t2 IH hps hpl
 go_enter Tryz.func162, Tryz.ntmps162
 go_wp2
 go_region_law (refine step_call rfl 174 #[.pointer (some ⟨b, 0, none⟩), .agg #[.string op', .int .i64 n', .string s', .slice oo es.length cc], .int .i64 (ps[0] : Nat)] (by kernel_rfl) ?_; refine Hr.out.mono ?_; rintro e w4 ⟨b4, k4, h4⟩; rcases h4 with ⟨l4, rfl, h4, g4, hq⟩ | ⟨ht, hr⟩; rotate_left; (unfold WThrew at ht; subst ht; exact ⟨rfl, Below.trans (Below.drew b0) b4, k0.trans k4, Or.inr ⟨rfl, hr⟩⟩); dsimp only)
 all_goals
  go_wp2
  go_end0
  exact ⟨Below.trans (Below.drew b0) b4, k0.trans k4, Or.inl ⟨l4, rfl, h4, g4, hq⟩⟩
theorem wbare_x (K : Prop) (B b : Nat) (pS : Addr) (m : Nat) (IH : TermX K B b pS m) (op : ByteArray) (n : Int) (s : ByteArray) (l : List Ex) (hm : SizeOf.sizeOf l < m + 1) (lx : List UInt8) (w : World) (d : Nat) (o : Option Addr) (c : Nat) (ys : List Value) (hd : d ≤ 6000) (hK : 6000 < d + dptL l → K) (h : WStX B b d pS lx w) (h1 : RowAt w (fun k => k < B) 4 (.slice o l.length c) l.length ys) (h2 : ExIn w (fun k => k < B) l ys) (lv : Nat) (ps : List Nat) (so : Option Addr) (sc base : Nat) (hP : PartsAt w base so sc ps) (hbb : b < base) (hf : formedB op.toList n s.toList l.length = true) (hs : (op.toList = tCallL ∧ lv = 8 ∧ ps = []) ∨ ∃ t ∈ shapeL, op.toList = t.1 ∧ t.2.1 = lv ∧ t.2.2 = ps ∧ ps.length = l.length) :
  Calls Tryz.prog 162 #[.pointer (some ⟨b, 0, none⟩), .agg #[.string op, .int .i64 n, .string s, .slice o l.length c], .agg #[.int .i64 lv, .slice so ps.length sc]] w fun e w' => WAnyX K B b d pS lx (bareX op n s (twP (lvsOf op.toList l) l)) w e w' := by
 rcases hs with ⟨hc, _, _⟩ | ⟨t, ht, hop, rfl, rfl, hl⟩
 ·have hv : lvsOf op.toList l = [] := by unfold lvsOf; rw [if_neg (by rw [hc]; decide), hc]; exact shape_call.2
  rw [hv]
  exact xbare_call K B b pS m IH op n s l hm lx w d o c ys hd hK h h1 h2 _ _ hc
 ·have two : t.2.2 ≠ [] → ∃ q, so = some ⟨q, 0, none⟩ ∧ sc = t.2.2.length ∧ w.heap[q]? = some (.cells (intCells t.2.2).toArray 3 (0, 0)) ∧ q ≠ b := fun hne => by
   rcases hP with ⟨h0, _⟩ | ⟨q, hq, h3, h4, h5⟩
   ·exact absurd h0 hne
   ·exact ⟨q, h3, h4, h5, by omega⟩
  have hv : op.toList ≠ [110, 101, 103] → lvsOf op.toList l = t.2.2 := fun hne => by unfold lvsOf; rw [if_neg hne, hop]; exact (shape_lv ht).2
  simp only [shapeL, List.mem_cons, List.not_mem_nil, or_false] at ht
  rcases ht with rfl | rfl | rfl | rfl | rfl | rfl | rfl | rfl | rfl | rfl | rfl | rfl | rfl | rfl | rfl | rfl | rfl | rfl | rfl | rfl | rfl | rfl | rfl | rfl | rfl
  ·have hn := formedB_int hf hop
   exact xbare_int K B b pS op n s o l.length c hn.1 hn.2 lx w d h _ _ _ hop
  ·exact xbare_anyTrue K B b pS op n s o l.length c lx w d h _ _ _ hop
  ·exact xbare_anyFalse K B b pS op n s o l.length c lx w d h _ _ _ hop
  ·exact xbare_name K B b pS op n s o l.length c lx w d h _ _ _ hop
  ·obtain ⟨q, rfl, rfl, r4, hqb⟩ := two (by decide)
   have hn : 3 ≤ l.length := by rw [← hl]; decide
   rw [hv (by rw [hop]; decide)]
   exact xbare_if K B b pS m IH op n s l hm lx w d o c ys hd hK h h1 h2 _ _ q r4 hqb hl hn hop
  ·obtain ⟨q, rfl, rfl, r4, hqb⟩ := two (by decide)
   have hn : 2 ≤ l.length := by rw [← hl]; decide
   rw [hv (by rw [hop]; decide)]
   exact xbare_two K B b pS m IH op n s l hm lx w d o c ys hd hK h h1 h2 _ _ q r4 hqb hl hn (by rw [hop]; decide) (by rw [hop]; decide) (by rw [hop]; decide) (by rw [hop]; decide) (by rw [hop]; decide) (by rw [hop]; decide) (by rw [hop]; decide) (by rw [hop]; decide) (by rw [hop]; decide)
  ·obtain ⟨q, rfl, rfl, r4, hqb⟩ := two (by decide)
   have hn : 2 ≤ l.length := by rw [← hl]; decide
   rw [hv (by rw [hop]; decide)]
   exact xbare_two K B b pS m IH op n s l hm lx w d o c ys hd hK h h1 h2 _ _ q r4 hqb hl hn (by rw [hop]; decide) (by rw [hop]; decide) (by rw [hop]; decide) (by rw [hop]; decide) (by rw [hop]; decide) (by rw [hop]; decide) (by rw [hop]; decide) (by rw [hop]; decide) (by rw [hop]; decide)
  ·obtain ⟨q, rfl, rfl, r4, hqb⟩ := two (by decide)
   have hn : 2 ≤ l.length := by rw [← hl]; decide
   rw [hv (by rw [hop]; decide)]
   exact xbare_two K B b pS m IH op n s l hm lx w d o c ys hd hK h h1 h2 _ _ q r4 hqb hl hn (by rw [hop]; decide) (by rw [hop]; decide) (by rw [hop]; decide) (by rw [hop]; decide) (by rw [hop]; decide) (by rw [hop]; decide) (by rw [hop]; decide) (by rw [hop]; decide) (by rw [hop]; decide)
  ·obtain ⟨q, rfl, rfl, r4, hqb⟩ := two (by decide)
   have hn : 2 ≤ l.length := by rw [← hl]; decide
   rw [hv (by rw [hop]; decide)]
   exact xbare_two K B b pS m IH op n s l hm lx w d o c ys hd hK h h1 h2 _ _ q r4 hqb hl hn (by rw [hop]; decide) (by rw [hop]; decide) (by rw [hop]; decide) (by rw [hop]; decide) (by rw [hop]; decide) (by rw [hop]; decide) (by rw [hop]; decide) (by rw [hop]; decide) (by rw [hop]; decide)
  ·obtain ⟨q, rfl, rfl, r4, hqb⟩ := two (by decide)
   have hn : 2 ≤ l.length := by rw [← hl]; decide
   rw [hv (by rw [hop]; decide)]
   exact xbare_two K B b pS m IH op n s l hm lx w d o c ys hd hK h h1 h2 _ _ q r4 hqb hl hn (by rw [hop]; decide) (by rw [hop]; decide) (by rw [hop]; decide) (by rw [hop]; decide) (by rw [hop]; decide) (by rw [hop]; decide) (by rw [hop]; decide) (by rw [hop]; decide) (by rw [hop]; decide)
  ·obtain ⟨q, rfl, rfl, r4, hqb⟩ := two (by decide)
   have hn : 1 ≤ l.length := by rw [← hl]; decide
   rw [hv (by rw [hop]; decide)]
   exact xbare_not K B b pS m IH op n s l hm lx w d o c ys hd hK h h1 h2 _ _ q r4 hqb hl hn hop
  ·obtain ⟨q, rfl, rfl, r4, hqb⟩ := two (by decide)
   have hn : 2 ≤ l.length := by rw [← hl]; decide
   rw [hv (by rw [hop]; decide)]
   exact xbare_two K B b pS m IH op n s l hm lx w d o c ys hd hK h h1 h2 _ _ q r4 hqb hl hn (by rw [hop]; decide) (by rw [hop]; decide) (by rw [hop]; decide) (by rw [hop]; decide) (by rw [hop]; decide) (by rw [hop]; decide) (by rw [hop]; decide) (by rw [hop]; decide) (by rw [hop]; decide)
  ·obtain ⟨q, rfl, rfl, r4, hqb⟩ := two (by decide)
   have hn : 2 ≤ l.length := by rw [← hl]; decide
   rw [hv (by rw [hop]; decide)]
   exact xbare_two K B b pS m IH op n s l hm lx w d o c ys hd hK h h1 h2 _ _ q r4 hqb hl hn (by rw [hop]; decide) (by rw [hop]; decide) (by rw [hop]; decide) (by rw [hop]; decide) (by rw [hop]; decide) (by rw [hop]; decide) (by rw [hop]; decide) (by rw [hop]; decide) (by rw [hop]; decide)
  ·obtain ⟨q, rfl, rfl, r4, hqb⟩ := two (by decide)
   have hn : 2 ≤ l.length := by rw [← hl]; decide
   rw [hv (by rw [hop]; decide)]
   exact xbare_two K B b pS m IH op n s l hm lx w d o c ys hd hK h h1 h2 _ _ q r4 hqb hl hn (by rw [hop]; decide) (by rw [hop]; decide) (by rw [hop]; decide) (by rw [hop]; decide) (by rw [hop]; decide) (by rw [hop]; decide) (by rw [hop]; decide) (by rw [hop]; decide) (by rw [hop]; decide)
  ·obtain ⟨q, rfl, rfl, r4, hqb⟩ := two (by decide)
   have hn : 2 ≤ l.length := by rw [← hl]; decide
   rw [hv (by rw [hop]; decide)]
   exact xbare_two K B b pS m IH op n s l hm lx w d o c ys hd hK h h1 h2 _ _ q r4 hqb hl hn (by rw [hop]; decide) (by rw [hop]; decide) (by rw [hop]; decide) (by rw [hop]; decide) (by rw [hop]; decide) (by rw [hop]; decide) (by rw [hop]; decide) (by rw [hop]; decide) (by rw [hop]; decide)
  ·obtain ⟨q, rfl, rfl, r4, hqb⟩ := two (by decide)
   have hn : 2 ≤ l.length := by rw [← hl]; decide
   rw [hv (by rw [hop]; decide)]
   exact xbare_two K B b pS m IH op n s l hm lx w d o c ys hd hK h h1 h2 _ _ q r4 hqb hl hn (by rw [hop]; decide) (by rw [hop]; decide) (by rw [hop]; decide) (by rw [hop]; decide) (by rw [hop]; decide) (by rw [hop]; decide) (by rw [hop]; decide) (by rw [hop]; decide) (by rw [hop]; decide)
  ·obtain ⟨q, rfl, rfl, r4, hqb⟩ := two (by decide)
   have hn : 2 ≤ l.length := by rw [← hl]; decide
   rw [hv (by rw [hop]; decide)]
   exact xbare_two K B b pS m IH op n s l hm lx w d o c ys hd hK h h1 h2 _ _ q r4 hqb hl hn (by rw [hop]; decide) (by rw [hop]; decide) (by rw [hop]; decide) (by rw [hop]; decide) (by rw [hop]; decide) (by rw [hop]; decide) (by rw [hop]; decide) (by rw [hop]; decide) (by rw [hop]; decide)
  ·obtain ⟨q, rfl, rfl, r4, hqb⟩ := two (by decide)
   have hn : 2 ≤ l.length := by rw [← hl]; decide
   rw [hv (by rw [hop]; decide)]
   exact xbare_two K B b pS m IH op n s l hm lx w d o c ys hd hK h h1 h2 _ _ q r4 hqb hl hn (by rw [hop]; decide) (by rw [hop]; decide) (by rw [hop]; decide) (by rw [hop]; decide) (by rw [hop]; decide) (by rw [hop]; decide) (by rw [hop]; decide) (by rw [hop]; decide) (by rw [hop]; decide)
  ·obtain ⟨q, rfl, rfl, r4, hqb⟩ := two (by decide)
   have hn : 2 ≤ l.length := by rw [← hl]; decide
   rw [hv (by rw [hop]; decide)]
   exact xbare_two K B b pS m IH op n s l hm lx w d o c ys hd hK h h1 h2 _ _ q r4 hqb hl hn (by rw [hop]; decide) (by rw [hop]; decide) (by rw [hop]; decide) (by rw [hop]; decide) (by rw [hop]; decide) (by rw [hop]; decide) (by rw [hop]; decide) (by rw [hop]; decide) (by rw [hop]; decide)
  ·obtain ⟨q, rfl, rfl, r4, hqb⟩ := two (by decide)
   have hn : 2 ≤ l.length := by rw [← hl]; decide
   rw [hv (by rw [hop]; decide)]
   exact xbare_two K B b pS m IH op n s l hm lx w d o c ys hd hK h h1 h2 _ _ q r4 hqb hl hn (by rw [hop]; decide) (by rw [hop]; decide) (by rw [hop]; decide) (by rw [hop]; decide) (by rw [hop]; decide) (by rw [hop]; decide) (by rw [hop]; decide) (by rw [hop]; decide) (by rw [hop]; decide)
  ·obtain ⟨q, rfl, rfl, r4, hqb⟩ := two (by decide)
   have hn : 2 ≤ l.length := by rw [← hl]; decide
   rw [hv (by rw [hop]; decide)]
   exact xbare_two K B b pS m IH op n s l hm lx w d o c ys hd hK h h1 h2 _ _ q r4 hqb hl hn (by rw [hop]; decide) (by rw [hop]; decide) (by rw [hop]; decide) (by rw [hop]; decide) (by rw [hop]; decide) (by rw [hop]; decide) (by rw [hop]; decide) (by rw [hop]; decide) (by rw [hop]; decide)
  ·obtain ⟨q, rfl, rfl, r4, hqb⟩ := two (by decide)
   have hn : 2 ≤ l.length := by rw [← hl]; decide
   rw [hv (by rw [hop]; decide)]
   exact xbare_two K B b pS m IH op n s l hm lx w d o c ys hd hK h h1 h2 _ _ q r4 hqb hl hn (by rw [hop]; decide) (by rw [hop]; decide) (by rw [hop]; decide) (by rw [hop]; decide) (by rw [hop]; decide) (by rw [hop]; decide) (by rw [hop]; decide) (by rw [hop]; decide) (by rw [hop]; decide)
  ·obtain ⟨q, rfl, rfl, r4, hqb⟩ := two (by decide)
   have hn : 2 ≤ l.length := by rw [← hl]; decide
   rw [hv (by rw [hop]; decide)]
   exact xbare_two K B b pS m IH op n s l hm lx w d o c ys hd hK h h1 h2 _ _ q r4 hqb hl hn (by rw [hop]; decide) (by rw [hop]; decide) (by rw [hop]; decide) (by rw [hop]; decide) (by rw [hop]; decide) (by rw [hop]; decide) (by rw [hop]; decide) (by rw [hop]; decide) (by rw [hop]; decide)
  ·obtain ⟨q, rfl, rfl, r4, hqb⟩ := two (by decide)
   have hn : 1 ≤ l.length := by rw [← hl]; decide
   exact xbare_neg K B b pS m IH op n s l hm lx w d o c ys hd hK h h1 h2 _ _ q r4 hl hn rfl hop
  ·obtain ⟨q, rfl, rfl, r4, hqb⟩ := two (by decide)
   have hn : 1 ≤ l.length := by rw [← hl]; decide
   rw [hv (by rw [hop]; decide)]
   exact xbare_pre K B b pS m IH op n s l hm lx w d o c ys hd hK h h1 h2 _ _ q r4 hqb hl hn hop
set_option maxRecDepth 100000 in
set_option maxHeartbeats 2000000 in
theorem wterm_x (K : Prop) (B b : Nat) (pS : Addr) : ∀ m, TermX K B b pS m
 | 0 => fun _ _ _ _ hm => absurd hm (by omega)
 | m + 1 => by
  intro op n s l hm lx w d o c ys least hd hK h h1 h2
  rw [dpt_mk] at hK
  have IH : Hid (TermX K B b pS m) := wterm_x K B b pS m
  have hlt := h.lt
  have hle := h.le
  have hw := h.wt
  have hl6 := h.len
  obtain ⟨c3, f3⟩ := hw.deep
  have hlen := h1.len
  have H1 : Hid (RowAt w (fun k => k < B) 4 (.slice o l.length c) l.length ys) := h1
  have H2 : Hid (ExIn w (fun k => k < B) l ys) := h2
  clear h1 h2
  by_cases hd6 : d = 6000
  ·subst hd6
   have hc := h.err
   have hk6 : K := hK (by omega)
   clear hd hK
   go_enter Tryz.func145, Tryz.ntmps145
   go_wp2_with fail
   refine (wfail_any b pS _ (cell_keep ((Below.refl _ _).alloc (Nat.le_refl _) _) hc)).mono ?_
   rintro e w3 ⟨ht, rfl⟩
   unfold WThrew at ht
   subst ht
   go_wp2
   exact ⟨rfl, (Below.refl _ _).alloc (by omega) _, Kept.alloc b w _, Or.inr ⟨rfl, Or.inl hk6⟩⟩
  ·have hd0 : ((d : Int) == 6000) = false := by simp; omega
   have bS : Below B w (w.setCell ⟨b, 3, none⟩ (.int .i64 (d + 1))) := (Below.refl _ _).setCell (p := ⟨b, 3, none⟩) hle _
   have b0 : Below B w ((w.setCell ⟨b, 3, none⟩ (.int .i64 (d + 1))).alloc (teObj op n s (.slice o l.length c))) := bS.alloc (by simp; omega) _
   have k0 : Kept b w ((w.setCell ⟨b, 3, none⟩ (.int .i64 (d + 1))).alloc (teObj op n s (.slice o l.length c))) := ((Lib.OthersKept.refl _ _ _).setCell ⟨b, 3, none⟩ rfl _).alloc _
   have s0 : WStX B b (d + 1) pS lx ((w.setCell ⟨b, 3, none⟩ (.int .i64 (d + 1))).alloc (teObj op n s (.slice o l.length c))) := (h.next bS (hw.set (d + 1) (by omega)) hl6).alloc _
   have HE : Hid (((w.setCell ⟨b, 3, none⟩ (.int .i64 (d + 1))).alloc (teObj op n s (.slice o l.length c))).heap[w.heap.size]? = some (teObj op n s (.slice o l.length c))) := heap_alloc_new' (by simp) _
   have e0 := s0.err
   have hd1 : d + 1 ≤ 6000 := by omega
   clear hd6
   go_enter Tryz.func145, Tryz.ntmps145
   go_wp2_with fail
   refine (wshape_any b pS op n s o l.length c _ hlen e0).mono ?_
   rintro e w1 ⟨hb1, ⟨lv, ps, so, sc, rfl, hP, hf, hs⟩ | ⟨ht, hnf⟩⟩
   ·have hsz1 := hb1.size
    simp only [World.size_alloc, World.size_setCell] at hsz1
    have bW1 : Below B w w1 := b0.trans (hb1.mono (by simp; omega))
    have kW1 : Kept b w w1 := k0.trans (Kept.below hb1)
    have HE1 : Hid _ := row_keep hb1 HE.out
    obtain ⟨x0, x1, x2, x3, _⟩ := blk4 HE1.out
    have hl1 : w.heap.size < w1.heap.size := lt_of_cell x0
    have hwa := s0.wt
    have hla6 := s0.len
    have s1 : WStX B b (d + 1) pS lx (w1.alloc (shObj lv (.slice so ps.length sc))) := (s0.next (hb1.mono (by simp; omega)) (hwa.below hb1) hla6).alloc _
    have bW : Below B w (w1.alloc (shObj lv (.slice so ps.length sc))) := bW1.alloc (by omega) _
    have kW : Kept b w (w1.alloc (shObj lv (.slice so ps.length sc))) := kW1.trans (Kept.alloc b w1 _)
    have HEa : Hid _ := alloc_row (shObj lv (.slice so ps.length sc)) HE1.out
    have HSa : Hid _ := heap_alloc_new w1 (shObj lv (.slice so ps.length sc))
    have HP : Hid (PartsAt (w1.alloc (shObj lv (.slice so ps.length sc))) (w.heap.size + 1) so sc ps) := (hP.kept (Kept.alloc b w1 _) (by simp; omega)).low (by simp)
    have hlv : lvOf op.toList = lv := by
     rcases hs with ⟨h0, h1, _⟩ | ⟨t, ht, h0, h1, _⟩
     ·rw [h0, h1]; exact shape_call.1
     ·rw [h0, ← h1]; exact (shape_lv ht).1
    have HBr : Hid (∀ lx' w', Below B w w' → WStX B b (d + 1) pS lx' w' → PartsAt w' (w.heap.size + 1) so sc ps → Calls Tryz.prog 162 #[.pointer (some ⟨b, 0, none⟩), .agg #[.string op, .int .i64 n, .string s, .slice o l.length c], .agg #[.int .i64 lv, .slice so ps.length sc]] w' fun e w'' => WAnyX K B b (d + 1) pS lx' (bareX op n s (twP (lvsOf op.toList l) l)) w' e w'') := fun lx' w' hb hw' hp => wbare_x K B b pS m IH.out op n s l (by omega) lx' w' (d + 1) o c ys hd1 (fun hh => hK (by omega)) hw' (below_row H1.out hb) (below_ex H2.out hb) lv ps so sc (w.heap.size + 1) hp (by omega) hf hs
    have htw : tw least (.mk op n s l) = brkX (decide (lv < least)) (bareX op n s (twP (lvsOf op.toList l) l)) := by rw [tw_mk, if_pos hf, hlv]
    clear hP hf hs x0 x1 x2 x3 hlv hK
    by_cases hls : (lv : Int) < least
    ·have hbk : brkX (decide (lv < least)) (bareX op n s (twP (lvsOf op.toList l) l)) = catX (some [40]) (catX (bareX op n s (twP (lvsOf op.toList l) l)) (some [41])) := by rw [brkX, if_pos (by rw [decide_eq_true_eq]; omega)]
     have HTW : Hid (tw least (.mk op n s l) = catX (some [40]) (catX (bareX op n s (twP (lvsOf op.toList l) l)) (some [41]))) := htw.trans hbk
     clear hbk htw
     go_wp2_with fail
     refine (put_newX K B b (d + 1) pS _ _ [⟨#[40]⟩] [40] rfl _ 1 (by first | rfl | simp) rfl s1 (by decide) _ rfl).mono ?_
     rintro e v1 ⟨c1, j1, ⟨l1, rfl, u1, g1, z1, q1, rfl⟩ | ⟨ht, hr⟩⟩
     ·have s2 := s1.next c1 u1 g1
      have HEb : Hid _ := kept_row j1 HEa.out (by omega) (by intro c fz e; injection e with _ e; exact absurd e (by decide))
      have HSb : Hid _ := kept_row j1 HSa.out (by omega) (by intro c fz e; injection e with _ e; exact absurd e (by decide))
      obtain ⟨x0, x1, x2, x3, _⟩ := blk4 HEb.out
      obtain ⟨y0, y1, _⟩ := blk2 HSb.out
      have hz1 : w1.heap.size < v1.heap.size := lt_of_cell y0
      go_wp2_with fail
      refine (HBr.out _ _ (bW.trans c1) s2 (HP.out.kept j1 (by omega))).mono ?_
      rintro e v2 ⟨c2, j2, ⟨l2, rfl, u2, g2, z2, q2, rfl⟩ | ⟨ht, hr⟩⟩
      ·have s3 := s2.next c2 u2 g2
       have hz2 : w1.heap.size < v2.heap.size := Nat.lt_of_lt_of_le hz1 c2.size
       clear x0 x1 x2 x3 y0 y1
       go_wp2_with fail
       refine (put_newX K B b (d + 1) pS _ _ [⟨#[41]⟩] [41] rfl _ 1 (by first | rfl | simp) rfl s3 (by decide) _ rfl).mono ?_
       rintro e v3 ⟨c3', j3, ⟨l3, rfl, u3, g3, z3, q3, rfl⟩ | ⟨ht, hr⟩⟩
       ·obtain ⟨d2, g2'⟩ := u3.deep
        have hlt3 := u3.lt
        go_wp2
        go_end0
        exact ⟨(((bW.trans c1).trans c2).trans c3').setCell (p := ⟨b, 3, none⟩) hle _, (((kW.trans j1).trans j2).trans j3).setCell ⟨b, 3, none⟩ rfl _, Or.inl ⟨_, rfl, u3.set d (by push_cast; omega), g3, by rw [HTW.out]; exact ((Ok.this q3).lift q2).lift q1⟩⟩
       ·unfold WThrew at ht
        subst ht
        go_wp2
        exact ⟨rfl, ((bW.trans c1).trans c2).trans c3', ((kW.trans j1).trans j2).trans j3, Or.inr ⟨rfl, by rw [HTW.out]; exact (hr.lift q2).lift q1⟩⟩
      ·unfold WThrew at ht
       subst ht
       go_wp2
       exact ⟨rfl, (bW.trans c1).trans c2, (kW.trans j1).trans j2, Or.inr ⟨rfl, by rw [HTW.out]; exact (hr.more _).lift q1⟩⟩
     ·unfold WThrew at ht
      subst ht
      go_wp2
      exact ⟨rfl, bW.trans c1, kW.trans j1, Or.inr ⟨rfl, by rw [HTW.out]; exact hr.more _⟩⟩
    ·have hbk : brkX (decide (lv < least)) (bareX op n s (twP (lvsOf op.toList l) l)) = bareX op n s (twP (lvsOf op.toList l) l) := by rw [brkX, if_neg (by rw [decide_eq_true_eq]; omega)]
     have HTW : Hid (tw least (.mk op n s l) = bareX op n s (twP (lvsOf op.toList l) l)) := htw.trans hbk
     clear hbk htw
     obtain ⟨x0, x1, x2, x3, _⟩ := blk4 HE1.out
     go_wp2_with fail
     refine (HBr.out _ _ bW s1 HP.out).mono ?_
     rintro e v2 ⟨c2, j2, ⟨l2, rfl, u2, g2, hq⟩ | ⟨ht, hr⟩⟩
     ·obtain ⟨d2, g2'⟩ := u2.deep
      have hlt2 := u2.lt
      go_wp2
      go_end0
      exact ⟨(bW.trans c2).setCell (p := ⟨b, 3, none⟩) hle _, (kW.trans j2).setCell ⟨b, 3, none⟩ rfl _, Or.inl ⟨_, rfl, u2.set d (by push_cast; omega), g2, by rw [HTW.out]; exact hq⟩⟩
     ·unfold WThrew at ht
      subst ht
      go_wp2
      exact ⟨rfl, bW.trans c2, kW.trans j2, Or.inr ⟨rfl, by rw [HTW.out]; exact hr⟩⟩
   ·have htw : tw least (.mk op n s l) = none := by rw [tw_mk, if_neg (by rw [hnf]; exact Bool.false_ne_true)]
    have HTW : Hid (tw least (.mk op n s l) = none) := htw
    clear htw hnf
    unfold WThrew at ht
    subst ht
    go_wp2
    exact ⟨rfl, b0.trans (hb1.mono (by simp; omega)), k0.trans (Kept.below hb1), Or.inr ⟨rfl, by rw [HTW.out]; exact Rsn.none _ lx⟩⟩
end Go.Proofs.YtgbpccipdcajgaaGreatDoor
