/-
  package flow: an instant of a program without asserts and checks, that does not trap, BY CONTRACT.
-/
import Derived.Test.YtiejfopholdbnaaGreatDoorQ49
import Derived.Test.YtiejfopholdbnaaGreatDoorQ33
namespace Go.Proofs.YtiejfopholdbnaaGreatDoor
open Go.RowKit Go.Maps
set_option maxRecDepth 100000
set_option maxHeartbeats 4000000

def InsR (w : World) (q : Pln) (inp : List (Int × Int)) (wk : (Nat → Int) → Pq → Int × Bool) (Rd : Nat → Int → Prop) (e : Ending) (w' : World) : Prop :=
 ∃ (g : Nat → Int) (so : Option Addr) (sc : Nat) (ta : Option Addr) (tc : Nat), WkS q inp wk Rd q.ts.length g false ∧ e = .returned (.tuple #[tickV so q.os.length sc true false none 0 0, .slice ta (q.ks.length + 1) tc]) ∧ VlAt w' (.slice so q.os.length sc) (tdV q g q.os) ∧ VlAt w' (.slice ta (q.ks.length + 1) tc) ((1, 0) :: tdV q g q.ks) ∧ Below w.heap.size w w'
theorem VlAt.beside {w w' : World} {v : Value} {l : List (Int × Int)} {T : Nat} {cs : Array Value} {t : TypeId} (h : VlAt w v l) (hr : w.heap[T]? = some (.cells cs t (0, 0))) (hn : ∀ (k : Nat) (z : Int), cs[k]? ≠ some (Value.int .i64 z)) (hg : w.grownBy w' (some T)) : VlAt w' v l := by
 obtain ⟨h1, h2, o, c, rfl, h3, h4⟩ := h
 refine ⟨h1, h2, o, c, rfl, fun k x hx => ?_, h4⟩
 obtain ⟨b, off, rfl, hb, hc⟩ := h3 k x hx
 refine ⟨b, off, rfl, hb, ?_⟩
 have hi : ∃ z : Int, x = Value.int .i64 z := by
  unfold vlC at hx
  obtain ⟨y, _, hy⟩ := List.mem_flatMap.1 (List.mem_of_getElem? hx)
  simp at hy
  rcases hy with rfl | rfl <;> exact ⟨_, rfl⟩
 obtain ⟨z, rfl⟩ := hi
 have hbT : b ≠ T := by
  rintro rfl
  rw [cell_of_row w _ _ _ _ (0, 0) hr] at hc
  exact hn _ z hc
 have e := hg.block b (blk_of_cell hc) (fun e => hbT (Option.some.inj e))
 rw [← hc]
 simp only [World.cell?, e]
theorem instant_ok {w : World} {C B M : Nat} {dv : Value} {f : List UInt8 → Option Value} {q : Pln} {nb nn : Int} (hcd : Cd w C B M dv f q nb nn) (hq : PlOk q) (hn : q.ps.length ≤ 100000) (hos : ∀ x ∈ q.os, x < q.ps.length) (hol : q.os.length ≤ 100000) (ha : q.ax = []) (hc : q.cx = []) (hks : ∀ x ∈ q.ks, x < q.ps.length) (hkl : q.ks.length ≤ 100000)
  (so : Option Addr) (m sc : Nat) (s0 : Int × Int) (mem : List (Int × Int)) (hs : VlAt w (.slice so (m + 1) sc) (s0 :: mem)) (io : Option Addr) (il ic : Nat) (inp : List (Int × Int)) (hin : ValsAt w (.slice io il ic) inp) (hil : inp.length = q.is.length) (him : il = inp.length) (wk : (Nat → Int) → Pq → Int × Bool) (Rd : Nat → Int → Prop) (hRi : ∀ (i x : Nat) (v : Int × Int), q.is[i]? = some x → inp[i]? = some v → Rd x v.2)
  (hw : ∀ w1 I R, Below w.heap.size w w1 → WkC w1 q ⟨I, R, B, C, s0.2 == 1, if sc = 1 then so else so.map (·.add 2), m, sc - 1, q.ps.length, fun _ => 0, 0, 0, 0, false⟩ wk Rd) (hnt : ∀ g tr, WkS q inp wk Rd q.ts.length g tr → tr = false) :
  Calls Tryz.prog 57 #[.pointer (some ⟨C, 0, none⟩), .slice so (m + 1) sc, .slice io il ic] w (InsR w q inp wk Rd) := by
 obtain ⟨w1, hw1⟩ : ∃ w1, w1 = w.alloc (.cells #[.slice none 0 0, .bool false, .bool false, .slice none 0 0] 112) := ⟨_, rfl⟩
 obtain ⟨T, hT⟩ : ∃ T, T = w.heap.size := ⟨_, rfl⟩
 have hb1 : Below w.heap.size w w1 := by rw [hw1]; exact bal
 have hr1 : w1.heap[T]? = some (.cells #[.slice none 0 0, .bool false, .bool false, .slice none 0 0] 112 (0, 0)) := by rw [hw1, hT]; exact heap_alloc_new _ _
 have hcd1 := hcd.keep hb1
 have HNI : Hid (Calls Tryz.prog 103 #[.pointer (some ⟨C, 0, none⟩), .slice so (m + 1) sc] w1 fun e w' => ∃ I, w1.heap.size ≤ I ∧ e = .returned (.pointer (some ⟨I, 0, none⟩)) ∧ w'.heap[I]? = some (.cells #[.pointer (some ⟨B, 0, none⟩), .pointer (some ⟨C, 0, none⟩), .bool (s0.2 == 1), .slice (if sc = 1 then so else so.map (·.add 2)) m (sc - 1), .slice none 0 0, .int .i64 0, .int .i64 0, .int .i64 0, .bool false] 192 (0, 0)) ∧ Below w1.heap.size w1 w') := newInstant_any hcd1 so m sc s0 mem (hs.keep hb1)
 have HWA : Hid (∀ I w2, Wk0 w1 I B C (s0.2 == 1) (if sc = 1 then so else so.map (·.add 2)) m (sc - 1) w2 → Calls Tryz.prog 104 #[.pointer (some ⟨I, 0, none⟩), .slice io il ic] w2 fun e w' => e = .returned (.tuple #[]) ∧ ∃ R d', WkE w1 q inp wk Rd ⟨I, R, B, C, s0.2 == 1, if sc = 1 then so else so.map (·.add 2), m, sc - 1, q.ps.length, fun _ => 0, 0, 0, 0, false⟩ d' w') := fun I w2 h2 => workAll_any hcd1 h2 hq hn io il ic inp (hin.below hb1) hil him wk Rd hRi (fun R => hw w1 I R hb1)
 have HTK : Hid (∀ d w2, Ist w1 d w2 → d.B = B → d.n = q.ps.length → Calls Tryz.prog 106 #[.pointer (some ⟨d.I, 0, none⟩)] w2 fun e w' => ∃ so sc, e = .returned (tickV so q.os.length sc true false none 0 0) ∧ VlAt w' (.slice so q.os.length sc) (tdV q d.g q.os) ∧ Below w2.heap.size w2 w') := fun d w2 hi hB hn => tick_none (by rw [hB]; exact hcd1) hi hn hos hol ha hc
 have HSA : Hid (∀ d w2, Ist w1 d w2 → d.B = B → d.n = q.ps.length → Calls Tryz.prog 107 #[.pointer (some ⟨d.I, 0, none⟩)] w2 fun e w' => ∃ so sc, e = .returned (.slice so (q.ks.length + 1) sc) ∧ VlAt w' (.slice so (q.ks.length + 1) sc) ((1, 0) :: tdV q d.g q.ks) ∧ Below w2.heap.size w2 w') := fun d w2 hi hB hn => state_any (by rw [hB]; exact hcd1) hi hn hks hkl
 have HNT := hidP hnt
 have HB1 : Hid (Below w.heap.size w w1 ∧ w1.heap[T]? = some (.cells #[.slice none 0 0, .bool false, .bool false, .slice none 0 0] 112 (0, 0)) ∧ w.heap.size ≤ T) := ⟨hb1, hr1, by rw [hT]; exact Nat.le_refl _⟩
 have HW1 : Hid (w.alloc (.cells #[.slice none 0 0, .bool false, .bool false, .slice none 0 0] 112) = w1 ∧ w.heap.size = T) := ⟨hw1.symm, hT.symm⟩
 clear hcd hq hn hos hol ha hc hks hkl hs hin hil him hRi hw hnt hw1 hT hb1 hr1 hcd1
 go_enter Tryz.func57, Tryz.ntmps57
 go_upto_region 1 with fail
 rw [HW1.out.1, HW1.out.2]
 go_upto_region 2 with (go_at_call 103; refine HNI.out.mono ?_; rintro e w2 ⟨I, hI, rfl, hrI, hb2⟩)
 have HWK : Hid (Wk0 w1 I B C (s0.2 == 1) (if sc = 1 then so else so.map (·.add 2)) m (sc - 1) w2) := ⟨hrI, hI, hb2⟩
 clear hI hrI hb2
 go_wp2_with fail
 refine (HWA.out I w2 HWK.out).mono ?_
 rintro e w3 ⟨rfl, R, d, he⟩
 have HE : Hid (d.I = I ∧ d.B = B ∧ d.n = q.ps.length ∧ Ist w1 d w3 ∧ WkS q inp wk Rd q.ts.length d.g d.tr ∧ d.tr = false) := ⟨he.same.I, he.same.B, he.same.n, he.ist, he.st, HNT.out _ _ he.st⟩
 have t8 : w3.cell? ⟨I, 0 + 8, none⟩ = some (.bool false) := by have := he.ist.c8; rw [HE.out.1, HE.out.2.2.2.2.2] at this; exact this
 have HTC := HTK.out d w3 HE.out.2.2.2.1 HE.out.2.1 HE.out.2.2.1
 rw [HE.out.1] at HTC
 have HTC2 : Hid (Calls Tryz.prog 106 #[.pointer (some ⟨I, 0, none⟩)] w3 fun e w' => ∃ so sc, e = .returned (.agg #[.slice so q.os.length sc, .bool true, .bool false, .slice none 0 0]) ∧ VlAt w' (.slice so q.os.length sc) (tdV q d.g q.os) ∧ Below w3.heap.size w3 w') := HTC
 clear he HTC
 go_wp2_with (go_at_call 106; refine HTC2.out.mono ?_; rintro e w4 ⟨ta, tc, rfl, hv4, hb4⟩)
 have HI4 : Hid (Ist w1 d w4) := HE.out.2.2.2.1.keep hb4
 have HSS := HSA.out d w4 HI4.out HE.out.2.1 HE.out.2.2.1
 rw [HE.out.1] at HSS
 have HSC : Hid (Calls Tryz.prog 107 #[.pointer (some ⟨I, 0, none⟩)] w4 fun e w' => ∃ so sc, e = .returned (.slice so (q.ks.length + 1) sc) ∧ VlAt w' (.slice so (q.ks.length + 1) sc) ((1, 0) :: tdV q d.g q.ks) ∧ Below w4.heap.size w4 w') := HSS
 have HV4 := hidP hv4
 clear HSS hv4 hb4 t8
 have HT4 : Hid (w4.heap[T]? = some (.cells #[.slice none 0 0, .bool false, .bool false, .slice none 0 0] 112 (0, 0))) := row_keep HI4.out.below HB1.out.2.1
 clear HTC2 HWA HNI HTK HSA
 have HAFT : Hid (∀ w5, Below w4.heap.size w4 w5 → w5.cell? ⟨T, 0, none⟩ = some (.slice none 0 0) ∧ w5.cell? ⟨T, 0 + 1, none⟩ = some (.bool false) ∧ w5.cell? ⟨T, 0 + 2, none⟩ = some (.bool false) ∧ w5.cell? ⟨T, 0 + 3, none⟩ = some (.slice none 0 0) ∧ w5.frozen? ⟨T, 0, none⟩ = false ∧ w5.frozen? ⟨T, 0 + 1, none⟩ = false ∧ w5.frozen? ⟨T, 0 + 2, none⟩ = false ∧ w5.frozen? ⟨T, 0 + 3, none⟩ = false ∧ w5.heap[T]? = some (.cells #[.slice none 0 0, .bool false, .bool false, .slice none 0 0] 112 (0, 0))) := fun w5 hb => by
  have hr5 := row_keep hb HT4.out
  refine ⟨?_, ?_, ?_, ?_, frozen_row hr5, frozen_row hr5, frozen_row hr5, frozen_row hr5, hr5⟩ <;> (rw [cell_of_row w5 _ _ _ _ (0, 0) hr5]; rfl)
 go_wp2_with (go_at_call 107; refine HSC.out.mono ?_; rintro e w5 ⟨sa, sd, rfl, hv5, hb5⟩; obtain ⟨t0, t1, t2, t3, f0, f1, f2, f3, hr5⟩ := HAFT.out w5 hb5; have H5 : Hid (VlAt w5 (.slice sa (q.ks.length + 1) sd) ((1, 0) :: tdV q d.g q.ks) ∧ Below w4.heap.size w4 w5 ∧ w5.heap[T]? = some (.cells #[.slice none 0 0, .bool false, .bool false, .slice none 0 0] 112 (0, 0))) := ⟨hv5, hb5, hr5⟩; clear hv5 hb5 hr5)
 obtain ⟨wE, hwE⟩ : ∃ wE, wE = (((w5.setCell ⟨T, 0, none⟩ (.slice ta q.os.length tc)).setCell ⟨T, 1, none⟩ (.bool true)).setCell ⟨T, 2, none⟩ (.bool false)).setCell ⟨T, 3, none⟩ (.slice none 0 0) := ⟨_, rfl⟩
 rw [← hwE]
 have hrE : wE.heap[T]? = some (.cells #[.slice ta q.os.length tc, .bool true, .bool false, .slice none 0 0] 112 (0, 0)) := by
  rw [hwE]
  exact heap_setCell_same _ T 3 _ _ _ (heap_setCell_same _ T 2 _ _ _ (heap_setCell_same _ T 1 _ _ _ (heap_setCell_same w5 T 0 _ _ _ H5.out.2.2)))
 have hg : w5.grownBy wE (some T) := by
  rw [hwE]
  exact grown_trans (grown_trans (grown_trans (grown_set w5 T 0 _) (grown_set _ T 1 _)) (grown_set _ T 2 _)) (grown_set _ T 3 _)
 have e0 : wE.cell? ⟨T, 0, none⟩ = some (.slice ta q.os.length tc) := cr hrE rfl
 have e1 : wE.cell? ⟨T, 0 + 1, none⟩ = some (.bool true) := cr hrE rfl
 have e2 : wE.cell? ⟨T, 0 + 2, none⟩ = some (.bool false) := cr hrE rfl
 have e3 : wE.cell? ⟨T, 0 + 3, none⟩ = some (.slice none 0 0) := cr hrE rfl
 have hnn : ∀ (k : Nat) (z : Int), (#[.slice none 0 0, .bool false, .bool false, .slice none 0 0] : Array Value)[k]? ≠ some (Value.int .i64 z) := by
  intro k z
  rcases k with _ | _ | _ | _ | k <;> simp
 have HF : Hid (VlAt wE (.slice ta q.os.length tc) (tdV q d.g q.os) ∧ VlAt wE (.slice sa (q.ks.length + 1) sd) ((1, 0) :: tdV q d.g q.ks) ∧ Below w.heap.size w wE) := by
  have h := H5.out
  refine ⟨(HV4.out.keep h.2.1).beside h.2.2 hnn hg, h.1.beside h.2.2 hnn hg, ?_⟩
  have hb : Below w.heap.size w w5 := HB1.out.1.trans ((HI4.out.below.trans (h.2.1.mono HI4.out.below.size)).mono HB1.out.1.size)
  exact hb.grown hg hb.size (fun k hk => by obtain rfl := Option.some.inj hk; exact HB1.out.2.2)
 refine bodyPost_ret (v := .tuple #[tickV ta q.os.length tc true false none 0 0, .slice sa (q.ks.length + 1) sd]) ?_ rfl ?_
 ·simp [results, tickV, e0, e1, e2, e3, go_sem]
 ·have hst := HE.out.2.2.2.2.1
  rw [HE.out.2.2.2.2.2] at hst
  exact ⟨d.g, ta, tc, sa, sd, hst, rfl, HF.out⟩
set_option maxRecDepth 100000
set_option maxHeartbeats 4000000

def qB : Pln := ⟨[⟨bTrue, 1, [], 0, 1, false⟩], [], [0], [], [0], [], []⟩
theorem bare_pu (fl : List UInt8 → Option Int) : puP pBare fl = [⟨bTrue, 1, [], 0, 0, false⟩] := by rfl
theorem bare_rk (d : List Nat) (fl : List UInt8 → Option Int) (_h : OOk pBare d) : ∃ rk, Rkd (puP pBare fl) rk := by
 rw [bare_pu]
 have hn : ∀ x, ndP [⟨bTrue, 1, [], 0, 0, false⟩] x = [] := fun x => by
  match x with
  | 0 => rfl
  | x + 1 => rfl
 refine ⟨fun _ => 0, ⟨fun x n hx => ?_, fun x q hq hf => ?_⟩⟩
 ·rw [hn] at hx; cases hx
 ·match x with
  | 0 => obtain rfl := Option.some.inj hq; exact absurd hf (by decide)
  | x + 1 => cases hq
theorem bare_ts {fl : List UInt8 → Option Int} {ts : List Nat} (h : Trn (puP pBare fl) ts) : ts = [0] := by
 rw [bare_pu] at h
 have h0 : 0 ∈ ts := by
  rcases h.all 0 (by decide) with h1 | h1
  ·exact absurd h1 (by decide)
  ·exact h1
 have hx : ∀ x ∈ ts, x = 0 := fun x hx => by have := (h.t x hx).1; simp at this; exact this
 match ts, h.nd, h0, hx with
 | [x], _, _, hx => rw [hx x (List.mem_singleton_self _)]
 | x :: y :: l, hn, _, hx =>
  have e1 := hx x (by simp)
  have e2 := hx y (by simp)
  rw [e1, e2] at hn
  simp at hn
theorem bare_plan {f : List UInt8 → Nat} {ts : List Nat} {qs : List Int} (ht : Trn (puP pBare (latP pBare f)) ts) (hq : tyL (kAl (fun _ => none) (varsP pBare)) (termsP pBare) = some (kindsP pBare, qs)) : plnOf pBare (latP pBare f) ts qs = qB := by
 obtain rfl := bare_ts ht
 have h1 : tyL (kAl (fun _ => none) (varsP pBare)) (termsP pBare) = some (kindsP pBare, [1]) := rfl
 rw [h1] at hq
 obtain rfl : [1] = qs := congrArg Prod.snd (Option.some.inj hq)
 rfl
theorem bareq_ok : PlOk qB where
 trn := by
  refine ⟨by decide, fun x hx => ?_, fun x hx => ?_, fun a x b e n hn => ?_⟩
  ·obtain rfl := List.mem_singleton.1 hx
   exact ⟨by decide, by decide⟩
  ·have : x = 0 := by have : x < 1 := hx; omega
   subst this
   exact .inr (List.mem_singleton_self _)
  ·match x with
   | 0 => cases hn
   | x + 1 => cases hn
 is := fun x hx => by
  have : x = 0 := by have : x < 1 := hx; omega
  subst this
  exact ⟨fun h => absurd h (by decide), fun h => by cases h⟩
 isl := fun x hx => by cases hx
 isn := by decide
 nl := fun x y hy => by
  match x with
  | 0 => cases hy
  | x + 1 => cases hy
theorem bareq_part : PartOk 1 0 ⟨bTrue, 1, [], 0, 1, false⟩ := ⟨fun h => absurd h (by decide), fun h => absurd h (by decide), fun h => absurd h (by decide), fun h => absurd h (by decide), fun h => absurd h (by decide)⟩
def wkB (g : Nat → Int) (p : Pq) : Int × Bool := (wkP 0 0 true [] g p, false)
theorem bareq_work {w0 : World} {C B M : Nat} {dv : Value} {f : List UInt8 → Option Value} {d : IsD} (hcd : Cd w0 C B M dv f qB 0 0) (hC : d.C = C) (hB : d.B = B) (hf : d.fr = true) (hn : d.n = 1) (mm : ValsAt w0 (.slice d.mo d.ml d.mc) []) (hml : d.ml = 0) : WkC w0 qB d wkB (fun _ _ => True) where
 work := fun x p hx _ d' w hs hi _ => by
  have hp : p = ⟨bTrue, 1, [], 0, 1, false⟩ := by
   match x with
   | 0 => exact (Option.some.inj hx).symm
   | x + 1 => cases hx
  have hsc : Isc w0 M dv f qB 0 0 [] d' := ⟨by rw [hs.C, hs.B, hC, hB]; exact hcd, by rw [hs.mo, hs.ml, hs.mc]; exact mm, by rw [hs.ml, hml]; rfl, by rw [hs.n, hn]; rfl⟩
  have hok : PartOk d'.n ([] : List (Int × Int)).length p := by rw [hs.n, hn, hp]; exact bareq_part
  have h := iwork_plain hsc hi hx hok (by rw [hp]; exact .inr (.inl rfl))
  rw [hs.I, hs.fr, hf] at h
  refine h.mono ?_
  rintro e w' ⟨rfl, hb⟩
  refine ⟨rfl, d'.a, d'.b, d'.c, ?_⟩
  have e : (d'.tr || (wkB d'.g p).2) = d'.tr := Bool.or_false _
  rw [e]
  exact hi.keep hb
 right := fun _ _ _ _ _ _ => trivial
 same := fun x p g g' hx h => by
  match x with
  | 0 => obtain rfl := Option.some.inj hx; rfl
  | x + 1 => cases hx
theorem bareq_tick {g : Nat → Int} {tr : Bool} (h : WkS qB [] wkB (fun _ _ => True) qB.ts.length g tr) : tr = false ∧ tdV qB g qB.os = [(1, 1)] := by
 have h0 := (h.val 0 (by decide)).1
 refine ⟨h.tr.trans rfl, ?_⟩
 have h1 : (wkAt qB wkB g 0).1 = 1 := rfl
 rw [h1] at h0
 show [(kindAt qB.ps 0, g 0)] = [(1, 1)]
 rw [h0]
 rfl
theorem binstant_any {w : World} {C B M : Nat} {dv : Value} {f : List UInt8 → Option Value} (hcd : Cd w C B M dv f qB 0 0) (so : Option Addr) (sc : Nat) (hs : VlAt w (.slice so (0 + 1) sc) [(1, 1)]) (io : Option Addr) (ic : Nat) (hin : ValsAt w (.slice io 0 ic) []) :
  Calls Tryz.prog 57 #[.pointer (some ⟨C, 0, none⟩), .slice so 1 sc, .slice io 0 ic] w fun e w' => ∃ (sa : Option Addr) (sd : Nat) (ta : Option Addr) (tc : Nat), e = .returned (.tuple #[.agg #[.slice sa 1 sd, .bool true, .bool false, .slice none 0 0], .slice ta 1 tc]) ∧ VlAt w' (.slice sa 1 sd) [(1, 1)] ∧ Below w.heap.size w w' := by
 have h := instant_ok (q := qB) (nb := 0) (nn := 0) hcd bareq_ok (by decide) (by decide) (by decide) rfl rfl (by decide) (by decide) so 0 sc (1, 1) [] hs io 0 ic [] hin rfl rfl wkB (fun _ _ => True) (fun _ _ _ _ _ => trivial) (fun w1 I R hb => bareq_work (hcd.keep hb) rfl rfl rfl rfl ?_ rfl) (fun g tr h => (bareq_tick h).1)
 ·refine h.mono ?_
  rintro e w' ⟨g, sa, sd, ta, tc, hst, rfl, hv, _, hb⟩
  refine ⟨sa, sd, ta, tc, rfl, ?_, hb⟩
  have e := (bareq_tick hst).2
  rw [e] at hv
  exact hv
 ·exact ⟨Nat.zero_le _, _, _, rfl, fun k x hk => by simp at hk⟩
set_option maxRecDepth 100000
set_option maxHeartbeats 4000000

theorem Tryz.infoTick : (Tryz.prog.info? 112).map (fun i => (i.zero, i.size, i.bytes)) = some (some (.agg #[.slice none 0 0, .bool false, .bool false, .slice none 0 0]), 4, 56) := by kernel_rfl
def RunB (w : World) (e : Ending) (w' : World) : Prop :=
 ∃ (t c : Nat) (sa : Option Addr) (sd : Nat), e = .returned (.tuple #[.slice (some ⟨t, 0, none⟩) 1 c, .nilIface]) ∧ w'.cell? ⟨t, 0, none⟩ = some (.slice sa 1 sd) ∧ w'.cell? ⟨t, 0 + 1, none⟩ = some (.bool true) ∧ w'.cell? ⟨t, 0 + 2, none⟩ = some (.bool false) ∧ w'.cell? ⟨t, 0 + 3, none⟩ = some (.slice none 0 0) ∧ VlAt w' (.slice sa 1 sd) [(1, 1)] ∧ Below w.heap.size w w'
theorem bcompile_any (w : World) (E : ErV) (b1 b2 : Nat) (h : BareAt w b1 b2) (he : ErrsAt w E) : Calls Tryz.prog 52 #[.agg #[.slice none 0 0, .slice (some ⟨b1, 0, none⟩) 1 1, .slice (some ⟨b2, 0, none⟩) 1 1, .slice none 0 0, .slice none 0 0], .bool false, .int .i64 0] w fun e w' => Below w.heap.size w w' ∧ ∃ (C B M : Nat) (dv : Value) (f : List UInt8 → Option Value), e = .returned (.tuple #[.pointer (some ⟨C, 0, none⟩), .nilIface]) ∧ Cd w' C B M dv f qB 0 0 := by
 refine (compile_any w _ pBare none (some ⟨b1, 0, none⟩) (some ⟨b2, 0, none⟩) none none 0 1 1 0 0 E (h.pg he) bare_rk false 0).mono ?_
 rintro e w' ⟨hb, hr⟩
 refine ⟨hb, ?_⟩
 rcases hr with ⟨t, x, hx, _⟩ | ⟨d, f, hrt, hr⟩
 ·exfalso
  rcases hx with ⟨t, x, hx, _⟩ | ⟨d, f, _, hf, hr⟩
  ·exact bare_noerr hx
  ·rcases hr with ⟨m, b, x, _, hbad, _⟩ | ⟨_, hr⟩
   ·unfold badF at hbad
    rw [bare_lt hf] at hbad
    simp at hbad
   ·rcases hr with ⟨⟨y, hy, _⟩, _⟩ | ⟨_, he⟩
    ·simp [pBare] at hy
    ·exact absurd he (by simp)
 ·rcases hr with ⟨h, _⟩ | ⟨ts, qs, C, htr, hty, _, _, rfl, hc⟩
  ·exact absurd h (by decide)
  ·rw [bare_plan htr hty] at hc
   obtain ⟨B, M, dv, f, hcd⟩ := hc.cd
   exact ⟨C, B, M, dv, f, rfl, hcd⟩
theorem brun_any (w : World) (E : ErV) (b1 b2 : Nat) (h : BareAt w b1 b2) (he : ErrsAt w E) (r : Nat) (hr : w.cell? ⟨r, 0, none⟩ = some (.slice none 0 0)) : Calls Tryz.prog 20 #[.agg #[.slice none 0 0, .slice (some ⟨b1, 0, none⟩) 1 1, .slice (some ⟨b2, 0, none⟩) 1 1, .slice none 0 0, .slice none 0 0], .slice (some ⟨r, 0, none⟩) 1 1, .bool false, .int .i64 0] w (RunB w) := by
 obtain ⟨i0, hi0, hz0, hz1, hz2⟩ := info_parts Tryz.infoTick
 obtain ⟨w1, hw1⟩ : ∃ w1, w1 = w.alloc (.cells #[.slice none 0 0, .slice (some ⟨b1, 0, none⟩) 1 1, .slice (some ⟨b2, 0, none⟩) 1 1, .slice none 0 0, .slice none 0 0] 39) := ⟨_, rfl⟩
 obtain ⟨P, hP⟩ : ∃ P, P = w.heap.size := ⟨_, rfl⟩
 have hb1 : Below w.heap.size w w1 := by rw [hw1]; exact bal
 have hr1 : w1.heap[P]? = some (.cells #[.slice none 0 0, .slice (some ⟨b1, 0, none⟩) 1 1, .slice (some ⟨b2, 0, none⟩) 1 1, .slice none 0 0, .slice none 0 0] 39 (0, 0)) := by rw [hw1, hP]; exact heap_alloc_new _ _
 have a0 : w1.cell? ⟨P, 0, none⟩ = some (.slice none 0 0) := cr hr1 rfl
 have a1 : w1.cell? ⟨P, 0 + 1, none⟩ = some (.slice (some ⟨b1, 0, none⟩) 1 1) := cr hr1 rfl
 have a2 : w1.cell? ⟨P, 0 + 2, none⟩ = some (.slice (some ⟨b2, 0, none⟩) 1 1) := cr hr1 rfl
 have a3 : w1.cell? ⟨P, 0 + 3, none⟩ = some (.slice none 0 0) := cr hr1 rfl
 have a4 : w1.cell? ⟨P, 0 + 4, none⟩ = some (.slice none 0 0) := cr hr1 rfl
 have HB1 : Hid (Below w.heap.size w w1 ∧ w1.cell? ⟨r, 0, none⟩ = some (.slice none 0 0)) := ⟨hb1, cell_keep hb1 hr⟩
 have HW1 : Hid (w.alloc (.cells #[.slice none 0 0, .slice (some ⟨b1, 0, none⟩) 1 1, .slice (some ⟨b2, 0, none⟩) 1 1, .slice none 0 0, .slice none 0 0] 39) = w1 ∧ w.heap.size = P) := ⟨hw1.symm, hP.symm⟩
 have HCP : Hid (Calls Tryz.prog 52 #[.agg #[.slice none 0 0, .slice (some ⟨b1, 0, none⟩) 1 1, .slice (some ⟨b2, 0, none⟩) 1 1, .slice none 0 0, .slice none 0 0], .bool false, .int .i64 0] w1 fun e w' => Below w1.heap.size w1 w' ∧ ∃ (C B M : Nat) (dv : Value) (f : List UInt8 → Option Value), e = .returned (.tuple #[.pointer (some ⟨C, 0, none⟩), .nilIface]) ∧ Cd w' C B M dv f qB 0 0) := bcompile_any w1 E b1 b2 ⟨row_keep hb1 h.out, row_keep hb1 h.fl⟩ (he.keep hb1)
 clear h he hr hw1 hP hb1 hr1
 go_enter Tryz.func20, Tryz.ntmps20
 go_upto_region 1 with fail
 rw [HW1.out.1, HW1.out.2]
 go_upto_region 2 with (go_at_call 52; refine HCP.out.mono ?_; rintro e w2 ⟨hb2, C, B, M, dv, f, rfl, hcd⟩; clear a0 a1 a2 a3 a4)
 obtain ⟨w3, hw3⟩ : ∃ w3, w3 = w2.alloc (.cells #[.pointer (some ⟨C, 0, none⟩)] 113) := ⟨_, rfl⟩
 obtain ⟨Q, hQ⟩ : ∃ Q, Q = w2.heap.size := ⟨_, rfl⟩
 have hb3 : Below w2.heap.size w2 w3 := by rw [hw3]; exact bal
 have hr3 : w3.heap[Q]? = some (.cells #[.pointer (some ⟨C, 0, none⟩)] 113 (0, 0)) := by rw [hw3, hQ]; exact heap_alloc_new _ _
 rw [← hw3, ← hQ]
 have q0 : w3.cell? ⟨Q, 0, none⟩ = some (.pointer (some ⟨C, 0, none⟩)) := cr hr3 rfl
 have hcd3 := hcd.keep hb3
 have hb13 : Below w1.heap.size w1 w3 := hb2.trans (hb3.mono hb2.size)
 have r3 : w3.cell? ⟨r, 0, none⟩ = some (.slice none 0 0) := cell_keep hb13 HB1.out.2
 have HB3 : Hid (Below w.heap.size w w3) := HB1.out.1.trans (hb13.mono HB1.out.1.size)
 have HRX : Hid (Calls Tryz.prog 53 #[.slice (some ⟨r, 0, none⟩) 1 1, .func (.func 54) #[] #[.pointer (some ⟨Q, 0, none⟩)]] w3 fun e w' => e = .returned (.int .i64 (-1)) ∧ Below w3.heap.size w3 w') := by
  refine (rindex_any (q := qB) hcd3 q0 (fun x hx => by cases hx) (some ⟨r, 0, none⟩) 1 1 [[]] rfl ⟨by unfold maxLen; exact Nat.le_of_ble_eq_true rfl, _, _, rfl, fun k l hk => ?_⟩).mono ?_
  ·match k with
   | 0 =>
    obtain rfl := Option.some.inj hk
    exact ⟨r, 0, none, 0, rfl, r3, Nat.zero_le _, _, _, rfl, fun k x hk => by simp at hk⟩
   | k + 1 => cases hk
  ·rintro e w' ⟨i, rfl, hi, hb⟩
   refine ⟨?_, hb⟩
   rcases hi with ⟨rfl, _⟩ | ⟨k, l, _, hk, hl, _⟩
   ·rfl
   ·match k with
    | 0 =>
     obtain rfl := Option.some.inj hk
     exact absurd hl (by decide)
    | k + 1 => cases hk
 have HCD : Hid (∀ W, Below w3.heap.size w3 W → Cd W C B M dv f qB 0 0 ∧ W.cell? ⟨Q, 0, none⟩ = some (.pointer (some ⟨C, 0, none⟩)) ∧ W.cell? ⟨r, 0, none⟩ = some (.slice none 0 0)) := fun W hW => ⟨hcd3.keep hW, cell_keep hW q0, cell_keep hW r3⟩
 have HST : Hid (∀ W, Below w3.heap.size w3 W → Calls Tryz.prog 56 #[.pointer (some ⟨C, 0, none⟩)] W fun e w' => ∃ o c, e = .returned (.slice o 1 c) ∧ VlAt w' (.slice o 1 c) [(1, 1)] ∧ Below W.heap.size W w') := fun W hW => start_any (q := qB) (hcd3.keep hW) (fun x hx => by cases hx) (Nat.zero_le _)
 clear hcd hw3 hQ hb3 hr3 hcd3 hb13 hb2 HCP HB1 HW1
 go_upto_region 7 with (go_at_call 53; refine HRX.out.mono ?_; rintro e w4 ⟨rfl, hb4⟩)
 have HB4 := hidP hb4
 obtain ⟨_, q4, r4⟩ := HCD.out w4 hb4
 clear hb4 q0 r3 HRX
 go_upto_region 11 with (go_at_call 56; refine (HST.out w4 HB4.out).mono ?_; rintro e w5 ⟨so, sc, rfl, hv5, hb5⟩)
 have HB5 : Hid (Below w3.heap.size w3 w5) := HB4.out.trans (hb5.mono HB4.out.size)
 obtain ⟨hc5, q5, r5⟩ := HCD.out w5 HB5.out
 have HIN : Hid (Calls Tryz.prog 57 #[.pointer (some ⟨C, 0, none⟩), .slice so 1 sc, .slice none 0 0] w5 fun e w' => ∃ (sa : Option Addr) (sd : Nat) (ta : Option Addr) (tc : Nat), e = .returned (.tuple #[.agg #[.slice sa 1 sd, .bool true, .bool false, .slice none 0 0], .slice ta 1 tc]) ∧ VlAt w' (.slice sa 1 sd) [(1, 1)] ∧ Below w5.heap.size w5 w') := binstant_any hc5 so sc hv5 none 0 ⟨Nat.zero_le _, _, _, rfl, fun k x hk => by simp at hk⟩
 clear hc5 hv5 hb5 q4 r4 HST
 go_upto_region 12 with fail
 clear r5
 refine wp_loop_rounds 2 ?_
 rw [rounds_succ]
 have r5 : w5.cell? ⟨r, 0, none⟩ = some (.slice none 0 0) := (HCD.out w5 HB5.out).2.2
 have q5 : w5.cell? ⟨Q, 0, none⟩ = some (.pointer (some ⟨C, 0, none⟩)) := (HCD.out w5 HB5.out).2.1
 go_upto_region 15 with (go_at_call 57; refine HIN.out.mono ?_; rintro e w6 ⟨sa, sd, ta, tc, rfl, hv6, hb6⟩)
 obtain ⟨w7, hw7⟩ : ∃ w7, w7 = w6.alloc (.cells #[.slice sa 1 sd, .bool true, .bool false, .slice none 0 0] 112) := ⟨_, rfl⟩
 obtain ⟨T, hT⟩ : ∃ T, T = w6.heap.size := ⟨_, rfl⟩
 have hb7 : Below w6.heap.size w6 w7 := by rw [hw7]; exact bal
 have hr7 : w7.heap[T]? = some (.cells #[.slice sa 1 sd, .bool true, .bool false, .slice none 0 0] 112 (0, 0)) := by rw [hw7, hT]; exact heap_alloc_new _ _
 rw [← hw7, ← hT]
 have t0 : w7.cell? ⟨T, 0, none⟩ = some (.slice sa 1 sd) := cr hr7 rfl
 have t1 : w7.cell? ⟨T, 0 + 1, none⟩ = some (.bool true) := cr hr7 rfl
 have t2 : w7.cell? ⟨T, 0 + 2, none⟩ = some (.bool false) := cr hr7 rfl
 have t3 : w7.cell? ⟨T, 0 + 3, none⟩ = some (.slice none 0 0) := cr hr7 rfl
 have HB7 : Hid (Below w.heap.size w w7 ∧ VlAt w7 (.slice sa 1 sd) [(1, 1)]) := by
  have h5 : Below w.heap.size w w5 := HB3.out.trans (HB5.out.mono HB3.out.size)
  have h6 : Below w.heap.size w w6 := h5.trans (hb6.mono h5.size)
  exact ⟨h6.trans (hb7.mono h6.size), hv6.keep hb7⟩
 clear hv6 hb6 hw7 hT hb7 hr7 r5 q5 HIN HCD
 go_upto_region 16 with fail
 obtain ⟨cp, hcp⟩ : ∃ cp, cp = (Question.appendCap 1 0 112).cut (w7.tape w7.drawn (Question.appendCap 1 0 112)) := ⟨_, rfl⟩
 rw [← hcp]
 obtain ⟨w9, hw9⟩ : ∃ w9, w9 = ((w7.alloc (.cells #[.slice sa 1 sd, .bool true, .bool false, .slice none 0 0] 112)).alloc (.cells (#[.slice sa 1 sd, .bool true, .bool false, .slice none 0 0] ++ Builtin.zeroCells #[.slice none 0 0, .bool false, .bool false, .slice none 0 0] (cp - 1)) 112)).drew := ⟨_, rfl⟩
 obtain ⟨S, hS⟩ : ∃ S, S = w7.heap.size + 1 := ⟨_, rfl⟩
 have hb9 : Below w7.heap.size w7 w9 := by rw [hw9]; exact ((bal).alloc (by simp) _).drew
 have hr9 : w9.heap[S]? = some (.cells (#[.slice sa 1 sd, .bool true, .bool false, .slice none 0 0] ++ Builtin.zeroCells #[.slice none 0 0, .bool false, .bool false, .slice none 0 0] (cp - 1)) 112 (0, 0)) := by rw [hw9, hS]; exact two_new w7 _ _
 have hc : ∀ (k : Nat) (x : Value), k < 4 → (#[.slice sa 1 sd, .bool true, .bool false, .slice none 0 0] : Array Value)[k]? = some x → w9.cell? ⟨S, k, none⟩ = some x := fun k x hk hx => by
  rw [cell_of_row w9 _ _ _ _ (0, 0) hr9, Array.getElem?_append_left (by exact hk)]
  exact hx
 have s0 : w9.cell? ⟨S, 0, none⟩ = some (.slice sa 1 sd) := hc 0 _ (by decide) rfl
 have s1 : w9.cell? ⟨S, 0 + 1, none⟩ = some (.bool true) := hc 1 _ (by decide) rfl
 have s2 : w9.cell? ⟨S, 0 + 2, none⟩ = some (.bool false) := hc 2 _ (by decide) rfl
 have s3 : w9.cell? ⟨S, 0 + 3, none⟩ = some (.slice none 0 0) := hc 3 _ (by decide) rfl
 have HF : Hid (w9.cell? ⟨S, 0, none⟩ = some (.slice sa 1 sd) ∧ w9.cell? ⟨S, 0 + 1, none⟩ = some (.bool true) ∧ w9.cell? ⟨S, 0 + 2, none⟩ = some (.bool false) ∧ w9.cell? ⟨S, 0 + 3, none⟩ = some (.slice none 0 0) ∧ VlAt w9 (.slice sa 1 sd) [(1, 1)] ∧ Below w.heap.size w w9) := ⟨s0, s1, s2, s3, HB7.out.2.keep hb9, HB7.out.1.trans (hb9.mono HB7.out.1.size)⟩
 have t2' : w9.cell? ⟨T, 0 + 2, none⟩ = some (.bool false) := cell_keep hb9 t2
 rw [← hw9, ← hS]
 clear t0 t1 t2 t3 s0 s1 s2 s3 hc hr9 hb9 hw9 hS hcp
 go_wp2
 rw [rounds_succ]
 go_wp2
 try simp only [Exit.inBlock, Exit.then]
 refine bodyPost_ret (results_tmp2 rfl _ _ _) rfl ?_
 exact ⟨S, cp, sa, sd, rfl, HF.out⟩
theorem once_any (w : World) (E : ErV) (he : ErrsAt w E) : Calls Tryz.prog 18 #[] w fun e w' => e = .returned (.bool true) ∧ Below w.heap.size w w' := by
 have HB : Hid (∀ w, Calls Tryz.prog 31 #[] w fun e w' => ∃ b1 b2, e = .returned (.agg #[.slice none 0 0, .slice (some ⟨b1, 0, none⟩) 1 1, .slice (some ⟨b2, 0, none⟩) 1 1, .slice none 0 0, .slice none 0 0]) ∧ BareAt w' b1 b2 ∧ Below w.heap.size w w') := bare_any
 have HR : Hid (∀ W b1 b2 r, Below w.heap.size w W → BareAt W b1 b2 → W.cell? ⟨r, 0, none⟩ = some (.slice none 0 0) → Calls Tryz.prog 20 #[.agg #[.slice none 0 0, .slice (some ⟨b1, 0, none⟩) 1 1, .slice (some ⟨b2, 0, none⟩) 1 1, .slice none 0 0, .slice none 0 0], .slice (some ⟨r, 0, none⟩) 1 1, .bool false, .int .i64 0] W (RunB W)) := fun W b1 b2 r hW hb hr => brun_any W E b1 b2 hb (he.keep hW) r hr
 clear he
 go_enter Tryz.func18, Tryz.ntmps18
 go_upto_region 1 with fail
 go_wp2_with fail
 refine (HB.out w).mono ?_
 rintro e w1 ⟨b1, b2, rfl, hba, hb1⟩
 have HB1 : Hid (Below w.heap.size w w1 ∧ BareAt w1 b1 b2) := ⟨hb1, hba⟩
 have HRA : Hid (Calls Tryz.prog 20 #[.agg #[.slice none 0 0, .slice (some ⟨b1, 0, none⟩) 1 1, .slice (some ⟨b2, 0, none⟩) 1 1, .slice none 0 0, .slice none 0 0], .slice (some ⟨w1.heap.size, 0, none⟩) 1 1, .bool false, .int .i64 0] (w1.alloc (.cells #[.slice none 0 0] 64)) fun e w' => ∃ (t c : Nat) (sb sf sd : Nat), e = .returned (.tuple #[.slice (some ⟨t, 0, none⟩) 1 c, .nilIface]) ∧ w'.cell? ⟨t, 0, none⟩ = some (.slice (some ⟨sb, sf, none⟩) 1 sd) ∧ w'.cell? ⟨t, 0 + 1, none⟩ = some (.bool true) ∧ w'.cell? ⟨t, 0 + 2, none⟩ = some (.bool false) ∧ w'.cell? ⟨sb, sf, none⟩ = some (.int .i64 1) ∧ w'.cell? ⟨sb, sf + 1, none⟩ = some (.int .i64 1) ∧ Below w.heap.size w w') := by
  have hba' : Below w1.heap.size w1 (w1.alloc (.cells #[.slice none 0 0] 64)) := bal
  have hr0 : (w1.alloc (.cells #[.slice none 0 0] 64)).cell? ⟨w1.heap.size, 0, none⟩ = some (.slice none 0 0) := by rw [cell_of_row _ _ _ _ _ (0, 0) (heap_alloc_new w1 _)]; rfl
  have hbw : Below w.heap.size w (w1.alloc (.cells #[.slice none 0 0] 64)) := hb1.trans (hba'.mono hb1.size)
  refine (HR.out _ b1 b2 w1.heap.size hbw ⟨row_keep hba' hba.out, row_keep hba' hba.fl⟩ hr0).mono ?_
  rintro e w' ⟨t, c, sa, sd, rfl, h0, h1, h2, h3, hv, hb⟩
  obtain ⟨sb, sf, sc', es, _, _, hg⟩ := RowAt.at hv (by decide)
  obtain ⟨rfl, rfl⟩ : sa = some ⟨sb, sf, none⟩ ∧ sd = sc' := by simpa using es
  exact ⟨t, c, sb, sf, sd, rfl, h0, h1, h2, hg 0 (.int .i64 1) rfl, hg 1 (.int .i64 1) rfl, hbw.trans (hb.mono hbw.size)⟩
 clear hba hb1 HR HB
 go_upto_region 2 with (go_at_call 20; refine HRA.out.mono ?_; rintro e w2 ⟨t, c, sb, sf, sd, rfl, t0, t1, t2, v0, v1, hb2⟩)
 have HB2 := hidP hb2
 clear hb2 HRA HB1
 go_wp2
 go_ret
 exact ⟨rfl, HB2.out⟩
end Go.Proofs.YtiejfopholdbnaaGreatDoor
