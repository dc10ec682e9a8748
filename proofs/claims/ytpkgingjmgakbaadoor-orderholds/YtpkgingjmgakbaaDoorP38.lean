/-
  package order: needsItself BY CONTRACT: does a flow need itself? Whatever the needs are.
-/
import Derived.Test.YtpkgingjmgakbaaDoorP37
namespace Go.Proofs.YtpkgingjmgakbaaDoor
open Go.RowKit Go.Maps

/-- needsItself's state: what was seen (a block of bools), and a list of what is left to do. -/
structure NiS (w : World) (W n : Nat) (g : Nat → Bool) (v : Value) (ws : List Nat) (wr : World) : Prop where
  boo : BoAt wr W n g
  row : wr.ownsRow w.heap.size 3 1 v ws.length ((cI ws).map (Value.int .i64))
  ne : v.ownBlock ≠ some W
  wb : w.heap.size ≤ W
  below : Below w.heap.size w wr
theorem NiS.alloc {w wr : World} {W n : Nat} {g : Nat → Bool} {v : Value} {ws : List Nat} (h : NiS w W n g v ws wr) (o : Obj) : NiS w W n g v ws (wr.alloc o) := by
  have hb : Below wr.heap.size wr (wr.alloc o) := (Below.refl _ _).alloc (Nat.le_refl _) _
  exact ⟨(hb.block _ h.boo.lt).trans h.boo, h.row.alloc o, h.ne, h.wb, h.below.trans (hb.mono h.below.size)⟩
theorem NiS.more {w wr w' : World} {W n : Nat} {g : Nat → Bool} {v : Value} {ws : List Nat} {k gg cap : Nat} (h : NiS w W n g v ws wr) (ho : w'.ownsRow w.heap.size 3 1 (.slice (some ⟨gg, 0, none⟩) (ws.length + 1) cap) (ws.length + 1) ((cI ws).map (Value.int .i64) ++ [.int .i64 (k : Int)])) (hg : wr.grownBy w' v.ownBlock) (hat : v.ownBlock = some gg ∨ gg = wr.heap.size) : NiS w W n g (.slice (some ⟨gg, 0, none⟩) (ws ++ [k]).length cap) (ws ++ [k]) w' := by
  refine ⟨(hg.block W h.boo.lt (fun e => h.ne e.symm)).trans h.boo, ?_, fun e => ?_, h.wb, h.below.grown hg h.below.size (fun q hq => (h.row.lt q hq).1)⟩
  · rw [List.length_append, cI_snoc, List.map_append]
    exact ho
  · have e : gg = W := Option.some.inj e
    rcases hat with hat | hat
    · exact h.ne (by rw [hat, e])
    · have := h.boo.lt; omega
theorem NiS.store {w wr : World} {W n : Nat} {g : Nat → Bool} {v : Value} {ws : List Nat} (h : NiS w W n g v ws wr) (k : Nat) (x : Bool) : NiS w W n (fun j => if j = k then x else g j) v ws (wr.setCell ⟨W, k, none⟩ (.bool x)) := by
  have hset : ∀ q, q ≠ W → (wr.setCell ⟨W, k, none⟩ (.bool x)).heap[q]? = wr.heap[q]? := fun q hq => Below.heap_setCell wr ⟨W, k, none⟩ _ q hq
  have h1 := h.below
  refine ⟨h.boo.set k x, owns_keep h.row (fun q hq => hset q (fun e => h.ne (e ▸ hq))), h.ne, h.wb, ?_⟩
  exact ⟨h1.os, h1.tape, h1.output, by rw [size_setCell]; exact h1.size, fun q hq => (hset q (by have := h.wb; omega)).trans (h1.block q hq)⟩
theorem NiS.pop {w wr : World} {W n : Nat} {g : Nat → Bool} {gg c x : Nat} {ws : List Nat} (h : NiS w W n g (.slice (some ⟨gg, 0, none⟩) (ws.length + 1) c) (ws ++ [x]) wr) : NiS w W n g (.slice (some ⟨gg, 0, none⟩) ws.length c) ws wr := by
  have hr := h.row
  rw [List.length_append, cI_snoc, List.map_append] at hr
  exact ⟨h.boo, ownsRow_pop (by simp [cI]) hr, h.ne, h.wb, h.below⟩
set_option maxRecDepth 100000 in
set_option maxHeartbeats 8000000 in
theorem needsItself_any (w : World) (base nb : Nat) (F : Nat → Prop) (nd : List (List Nat)) (h : RwsAt w base nb F (nd.map cI)) (hn : nd.length ≤ 1000) (hk : ∀ i, ∀ k ∈ ndA nd i, k < nd.length) (ht : tot nd nd.length ≤ 200000) (i : Nat) (hi : i < nd.length) :
    Calls Tryd.prog 32 #[.slice (some ⟨nb, 0, none⟩) nd.length nd.length, .int .i64 (i : Int)] w fun e w' => ∃ b : Bool, e = .returned (.bool b) ∧ (b = true ↔ Rch nd i i) ∧ Below w.heap.size w w' := by
  obtain ⟨i0, hi0, hz0, hz1, hz2⟩ := info_parts Tryd.infoInt
  obtain ⟨n, hnn⟩ : ∃ n, n = nd.length := ⟨_, rfl⟩
  have hmk := make_row Tryd.underlying94 Tryd.infoBoo rfl n (by omega) (by omega)
  obtain ⟨w1, hw1⟩ : ∃ w1, w1 = w.alloc (.cells (Array.replicate n (.bool false)) 4) := ⟨_, rfl⟩
  obtain ⟨w2, hw2⟩ : ∃ w2, w2 = w1.alloc (.cells #[.int .i64 i] 3) := ⟨_, rfl⟩
  have hs1 : w1.heap.size = w.heap.size + 1 := by rw [hw1]; simp
  have hb1 : Below w.heap.size w w1 := by rw [hw1]; exact (Below.refl _ _).alloc (Nat.le_refl _) _
  have hb2 : Below w1.heap.size w1 w2 := by rw [hw2]; exact (Below.refl _ _).alloc (Nat.le_refl _) _
  have h2 : NiS w w.heap.size n (fun _ => false) (.slice (some ⟨w.heap.size + 1, 0, none⟩) 1 1) [i] w2 := by
    have hw : BoAt w1 w.heap.size n (fun _ => false) := by rw [hw1]; exact BoAt.made w n
    refine ⟨(hb2.block _ hw.lt).trans hw, ?_, fun e => ?_, Nat.le_refl _, hb1.trans (hb2.mono hb1.size)⟩
    · rw [hw2, ← hs1]
      have := World.ownsRow_lit (base := w.heap.size) (e := 3) (size := 1) w1 #[.int .i64 (i : Int)] 1 (by omega) (by unfold maxLen; omega) rfl
      simpa [cI] using this
    · have e2 : w.heap.size + 1 = w.heap.size := Option.some.inj e
      omega
  obtain ⟨W, hW⟩ : ∃ W, W = w.heap.size := ⟨_, rfl⟩
  obtain ⟨U, hU⟩ : ∃ U, U = w.heap.size + 1 := ⟨_, rfl⟩
  rw [← hU, ← hW] at h2
  have H2 : Hid (NiS w W n (fun _ => false) (.slice (some ⟨U, 0, none⟩) 1 1) [i] w2) := h2
  have HW : Hid (w.alloc (.cells (Array.replicate n (.bool false)) 4) = w1 ∧ w1.alloc (.cells #[.int .i64 i] 3) = w2 ∧ w.heap.size + 1 = U ∧ w.heap.size = W) := ⟨hw1.symm, hw2.symm, hU.symm, hW.symm⟩
  have HR : Hid (RwsAt w base nb F (nd.map cI)) := h
  have HN : Hid (n ≤ 1000 ∧ n = nd.length ∧ i < n) := ⟨by omega, hnn, by omega⟩
  have HK : Hid (∀ i, ∀ k ∈ ndA nd i, k < n) := by unfold Hid; rw [hnn]; exact hk
  have HT : Hid (tot nd n ≤ 200000) := by unfold Hid; rw [hnn]; exact ht
  have HS0 : Hid (Sn nd i (fun _ => False) [i] (fun _ => false)) := Sn.start nd hi
  rw [← hnn]
  clear h hn hk ht hnn hw1 hw2 hs1 hb1 hb2 h2 hW hU hi
  go_enter Tryd.func32, Tryd.ntmps32
  go_upto_region 3 with fail
  rw [HW.out.1, HW.out.2.2.1, HW.out.2.1, HW.out.2.2.2]
  clear hmk
  go_wp2
  go_loopw [6] (fun v wr => ∃ (ws : List Nat) (g : Nat → Bool) (so : Option Addr) (sc : Nat), v = .slice so ws.length sc ∧ Hid (NiS w W n g (.slice so ws.length sc) ws wr ∧ Sn nd i (fun _ => False) ws g ∧ uns n g + ws.length ≤ n + 1)) (fun v wr => 2 * uns n (@Classical.epsilon (Nat → Bool) ⟨fun _ => false⟩ (BoAt wr W n)) + lenV v)
  case atStart => exact ⟨[i], _, some ⟨U, 0, none⟩, 1, rfl, H2.out, HS0.out, by have := uns_le n (fun _ => false); simp; omega⟩
  case round =>
    obtain ⟨ws0, g, so, sc, rfl, HJ⟩ := hrel
    rcases List.eq_nil_or_concat ws0 with rfl | ⟨ws, x, hq⟩
    · have hgi := HJ.out.1.boo.cell HN.out.2.2
      have i0' : (0 : Int) ≤ (i : Int) := by omega
      have i1' : (i : Int) < (n : Int) := by have := HN.out; omega
      have HE : Hid ((g i = true ↔ Rch nd i i) ∧ Below w.heap.size w wr) := ⟨HJ.out.2.1.end, HJ.out.1.below⟩
      clear HJ
      simp only [List.length_nil]
      go_wp2
      go_ret
      exact ⟨g i, rfl, HE.out.1, HE.out.2⟩
    · rw [List.concat_eq_append] at hq
      subst hq
      have hle : (ws ++ [x]).length = ws.length + 1 := by simp
      rw [hle] at HJ ⊢
      have hrr : wr.ownsRow w.heap.size 3 1 (.slice so (ws.length + 1) sc) (ws.length + 1) ((cI (ws ++ [x])).map (Value.int .i64)) := by have := HJ.out.1.row; rwa [hle] at this
      obtain ⟨gg, cap, es, hbs, _⟩ := hrr.form (by omega)
      obtain ⟨rfl, rfl⟩ : so = some ⟨gg, 0, none⟩ ∧ sc = cap := by simpa using es
      have hP := HJ.out.1.pop
      obtain ⟨hSn, hxn, hxi⟩ := HJ.out.2.1.pop
      have y0 := hrr.cells (g := gg) rfl ws.length (.int .i64 (x : Int)) (by rw [List.getElem?_map, cI_at (x := x) (by simp)]; rfl)
      rw [Addr.add_lit, Nat.zero_add] at y0
      obtain ⟨l, hl⟩ : ∃ l, nd[x]? = some l := ⟨_, List.getElem?_eq_getElem hxn⟩
      have hla := ndA_some hl
      obtain ⟨o, c, hc, hrd⟩ := (HR.out.below (w' := wr) hP.below).read hl
      have HRD : Hid (∀ (j x : Nat), l[j]? = some x → ∃ b, o = some ⟨b, 0, none⟩ ∧ w.cell? ⟨b, j, none⟩ = some (.int .i64 (x : Int))) := by
        intro j x hj
        obtain ⟨o2, c2, hc2, hrd2⟩ := HR.out.read hl
        have := cell_keep hP.below hc2
        rw [hc] at this
        obtain ⟨rfl, rfl⟩ : o = o2 ∧ c = c2 := by simpa using this
        exact hrd2 j x hj
      have HLL : Hid (l.length ≤ 200000 ∧ ndA nd x = l ∧ x < n) := by
        have h1 := tot_mono nd (i := x + 1) (j := n) (by have := HN.out; omega)
        have h2 := HT.out
        have h3 := HN.out
        simp only [tot, hla] at h1
        exact ⟨by omega, hla, by omega⟩
      have HP : Hid (NiS w W n g (.slice (some ⟨gg, 0, none⟩) ws.length sc) ws wr ∧ Sn nd i (fun y => y = x) ws g ∧ uns n g + (ws.length + 1) ≤ n + 1) := ⟨hP, hSn, HJ.out.2.2⟩
      have HXI : Hid (x = i ∨ g x = true) := hxi
      have HGF : Hid (uns n (@Classical.epsilon (Nat → Bool) ⟨fun _ => false⟩ (BoAt wr W n)) = uns n g) := uns_congr fun k hk => (Classical.epsilon_spec (p := BoAt wr W n) ⟨g, hP.boo⟩).one hP.boo hk
      obtain ⟨m, hm⟩ : ∃ m, m = ws.length := ⟨_, rfl⟩
      have HMM : Hid (m = ws.length) := hm
      rw [← hm] at y0 HP ⊢
      have hcm : m ≤ sc ∧ sc ≠ 0 := by
        rcases hrr.2 with ⟨h, _⟩ | ⟨_, _, _, h, _, _, h2, _⟩
        · cases h
        · injection h with h3 h4 h5
          omega
      obtain ⟨hcm, hc0⟩ := hcm
      have i0' : (0 : Int) ≤ (m : Int) := by omega
      have i1' : (m : Int) < (m : Int) + 1 := by omega
      have k0' : (0 : Int) ≤ (x : Int) := by omega
      have k1' : (x : Int) < (n : Int) := by have := HLL.out; omega
      have N1 : wrap64 (m : Int) = (m : Int) := by have := HP.out.2.2; have := HN.out; unfold wrap64; omega
      have HXN : Hid ((0 : Int) ≤ (x : Int) ∧ (x : Int) < (n : Int)) := ⟨k0', k1'⟩
      clear HJ hle es hbs hP hSn hxn hxi hl hla hrd hm hrr
      go_upto_region 8 with fail
      clear y0 hc hcm hc0 i0' i1' k0' k1' N1
      go_loopw [6, 34] (fun v t wr => ∃ (j : Nat) (ws1 : List Nat) (g1 : Nat → Bool) (so : Option Addr) (sc1 : Nat), j ≤ l.length ∧ t = .int .i64 j ∧ v = .slice so ws1.length sc1 ∧ Hid (NiS w W n g1 (.slice so ws1.length sc1) ws1 wr ∧ Sn nd i (fun y => y = x) ws1 g1 ∧ uns n g1 + (ws1.length + 1) ≤ n + 1 ∧ (x = i ∨ g1 x = true) ∧ (∀ q y, q < j → l[q]? = some y → g1 y = true) ∧ 2 * uns n g1 + ws1.length ≤ 2 * uns n g + m)) (fun _ t _ => l.length - (intOf t).toNat)
      case atStart => exact ⟨0, ws, g, some ⟨gg, 0, none⟩, sc, Nat.zero_le _, rfl, by rw [HMM.out], by have h := HP.out; rw [HMM.out] at h ⊢; exact ⟨h.1, h.2.1, h.2.2, HXI.out, fun q y hq _ => absurd hq (Nat.not_lt_zero _), Nat.le_refl _⟩⟩
      case round =>
        obtain ⟨j, ws1, g1, so1, sc1, hj, rfl, rfl, HJ⟩ := hrel
        by_cases hjl : j < l.length
        · obtain ⟨y, hy⟩ : ∃ y, l[j]? = some y := ⟨_, List.getElem?_eq_getElem hjl⟩
          obtain ⟨b, rfl, hcb⟩ := HRD.out j y hy
          obtain ⟨hS, hSn, hun, hxg, hseen, hms⟩ := HJ.out
          have y0 := cell_keep hS.below hcb
          have hym : y ∈ ndA nd x := by rw [HLL.out.2.1]; exact List.mem_of_getElem? hy
          have hyn : y < n := HK.out x y hym
          have cy := hS.boo.cell hyn
          have fy := hS.boo.free y
          have i0' : (0 : Int) ≤ (j : Int) := by omega
          have i1' : (j : Int) < (l.length : Int) := by omega
          have k0' : (0 : Int) ≤ (y : Int) := by omega
          have k1' : (y : Int) < (n : Int) := by omega
          have HJL : Hid (j < l.length) := hjl
          have M4 : Hid (wrap64 ((j : Int) + 1) = (j : Int) + 1) := by have := HLL.out; unfold Hid wrap64; omega
          cases hgy : g1 y with
          | true =>
            rw [hgy] at cy
            have HNX : Hid (NiS w W n g1 (.slice so1 ws1.length sc1) ws1 wr ∧ Sn nd i (fun y => y = x) ws1 g1 ∧ uns n g1 + (ws1.length + 1) ≤ n + 1 ∧ (x = i ∨ g1 x = true) ∧ (∀ q z, q < j + 1 → l[q]? = some z → g1 z = true) ∧ 2 * uns n g1 + ws1.length ≤ 2 * uns n g + m) := ⟨hS, hSn, hun, hxg, fun q z hq hz => by
              by_cases e : q = j
              · subst e; rw [hy] at hz; rw [← Option.some.inj hz]; exact hgy
              · exact hseen q z (by omega) hz, hms⟩
            clear hy hcb hS hSn hun hxg hseen hms hym hyn hj hjl HJ hgy
            go_wp2
            exact ⟨⟨j + 1, ws1, g1, so1, sc1, HJL.out, by rw [M4.out]; rfl, rfl, HNX.out⟩, by rw [M4.out]; have := HJL.out; simp [intOf]; omega⟩
          | false =>
            rw [hgy] at cy
            obtain ⟨w3, hw3⟩ : ∃ w3, w3 = wr.setCell ⟨W, y, none⟩ (.bool true) := ⟨_, rfl⟩
            have HW3 : Hid (wr.setCell ⟨W, y, none⟩ (.bool true) = w3) := hw3.symm
            have hS3 := hS.store y true
            rw [← hw3] at hS3
            have HOA : Hid (NiS w W n (fun k => if k = y then true else g1 k) (.slice so1 ws1.length sc1) ws1 (w3.alloc (.cells #[.int .i64 y] 3))) := hS3.alloc _
            have HNW : Hid (∀ k z, [Value.int .i64 (y : Int)][k]? = some z → (w3.alloc (.cells #[.int .i64 y] 3)).cell? ((⟨w3.heap.size, 0, none⟩ : Addr).add k) = some z) := World.news_of_block (heap_alloc_new w3 _)
            have HMX : Hid (ws1.length + 1 ≤ maxLen ∧ (ws1.length + 1) * 8 ≤ 140737488355328) := by have := HN.out; unfold Hid maxLen; omega
            have hul := uns_less (g := g1) hyn hgy
            have HNX : Hid (Sn nd i (fun z => z = x) (ws1 ++ [y]) (fun k => if k = y then true else g1 k) ∧ uns n (fun k => if k = y then true else g1 k) + ((ws1 ++ [y]).length + 1) ≤ n + 1 ∧ (x = i ∨ (if x = y then true else g1 x) = true) ∧ (∀ q z, q < j + 1 → l[q]? = some z → (if z = y then true else g1 z) = true) ∧ 2 * uns n (fun k => if k = y then true else g1 k) + (ws1 ++ [y]).length ≤ 2 * uns n g + m) := by
              refine ⟨hSn.see hxg hym (by have := HN.out; omega), by rw [List.length_append, List.length_singleton]; omega, hxg.imp id fun h => ?_, fun q z hq hz => ?_, by rw [List.length_append, List.length_singleton]; omega⟩
              · split
                · rfl
                · exact h
              · by_cases e : q = j
                · subst e; rw [hy] at hz; rw [if_pos (Option.some.inj hz).symm]
                · split
                  · rfl
                  · exact hseen q z (by omega) hz
            clear hy hcb hS hSn hun hxg hseen hms hym hyn hj hjl HJ hgy hw3 hS3 hul
            go_upto_region 12 with fail
            rw [HW3.out]
            clear y0 cy fy
            go_wp2_with (at_builtin; refine wpList_append_lies _ rfl _ _ 22 rfl w.heap.size 3 i0 _ 1 8 Tryd.underlying22 hi0 hz0 hz1 hz2 rfl (by omega) (.slice so1 ws1.length sc1) ws1.length _ rfl HOA.out.row ⟨w3.heap.size, 0, none⟩ 1 1 _ rfl rfl HNW.out (by simp [Value.oneCell']) (by omega) HMX.out.1 HMX.out.2 HOA.out.below.size _ rfl ?_; intro gq capq w5 hown5 hgrow5 hat5 hlt5)
            have hM := HOA.out.more (k := y) hown5 hgrow5 hat5
            have hle : (ws1 ++ [y]).length = ws1.length + 1 := by simp
            exact ⟨⟨j + 1, ws1 ++ [y], _, some ⟨gq, 0, none⟩, capq, HJL.out, by rw [M4.out]; rfl, by rw [hle], hM, HNX.out⟩, by rw [M4.out]; have := HJL.out; simp [intOf]; omega⟩
        · obtain rfl : j = l.length := by omega
          obtain ⟨hS, hSn, hun, hxg, hseen, hms⟩ := HJ.out
          have HE : Hid (NiS w W n g1 (.slice so1 ws1.length sc1) ws1 wr ∧ Sn nd i (fun _ => False) ws1 g1 ∧ uns n g1 + ws1.length ≤ n + 1) := ⟨hS, hSn.over fun k hk => by
            rw [HLL.out.2.1] at hk
            obtain ⟨q, hq⟩ := List.mem_iff_getElem?.1 hk
            exact hseen q k (List.getElem?_eq_some_iff.1 hq).1 hq, by omega⟩
          have HLT : Hid (uns n (@Classical.epsilon (Nat → Bool) ⟨fun _ => false⟩ (BoAt wr W n)) = uns n g1 ∧ 2 * uns n g1 + ws1.length ≤ 2 * uns n g + m) := ⟨uns_congr fun k hk => (Classical.epsilon_spec (p := BoAt wr W n) ⟨g1, hS.boo⟩).one hS.boo hk, hms⟩
          clear hS hSn hun hxg hseen hms hj hjl HJ
          go_wp2
          exact ⟨⟨ws1, g1, so1, sc1, rfl, HE.out⟩, by rw [HGF.out, HLT.out.1]; have := HLT.out.2; simp [lenV]; omega⟩
end Go.Proofs.YtpkgingjmgakbaaDoor

/-
  package order: leastOfCycles BY CONTRACT: the least flow that needs itself, where one does.
-/
namespace Go.Proofs.YtpkgingjmgakbaaDoor
open Go.RowKit Go.Maps

set_option maxRecDepth 100000 in
set_option maxHeartbeats 8000000 in
theorem leastOfCycles_any (w : World) (base nb : Nat) (F : Nat → Prop) (nd : List (List Nat)) (h : RwsAt w base nb F (nd.map cI)) (hn : nd.length ≤ 1000) (hk : ∀ i, ∀ k ∈ ndA nd i, k < nd.length) (ht : tot nd nd.length ≤ 200000) (m : Nat) (hm : m < nd.length) (hmr : Rch nd m m) (hml : ∀ j, j < m → ¬ Rch nd j j) :
    Calls Tryd.prog 15 #[.slice (some ⟨nb, 0, none⟩) nd.length nd.length] w fun e w' => e = .returned (.int .i64 (m : Int)) ∧ Below w.heap.size w w' := by
  have HC : Hid (∀ (wr : World) (k : Nat), Below w.heap.size w wr → k ≤ m → Calls Tryd.prog 32 #[.slice (some ⟨nb, 0, none⟩) nd.length nd.length, .int .i64 (k : Int)] wr fun e w' => e = .returned (.bool (decide (k = m))) ∧ Below w.heap.size w w') := fun wr k hb hkm => by
    refine (needsItself_any wr base nb F nd (h.below hb) hn hk ht k (by omega)).mono ?_
    rintro e w' ⟨b, rfl, hb1, hb2⟩
    refine ⟨?_, hb.trans (hb2.mono hb.size)⟩
    by_cases e : k = m
    · subst e
      rw [hb1.2 hmr, decide_eq_true rfl]
    · have : ¬ b = true := fun h => hml k (by omega) (hb1.1 h)
      rw [decide_eq_false e]
      cases b with
      | true => exact absurd rfl this
      | false => rfl
  have HN : Hid (m ≤ 1000) := by unfold Hid; omega
  clear h hn hk ht hm hmr hml
  go_enter Tryd.func15, Tryd.ntmps15
  go_wp2
  go_loopw [3] (fun t wr => ∃ k : Nat, t = .int .i64 k ∧ Hid (k ≤ m ∧ Below w.heap.size w wr)) (fun t _ => m - (intOf t).toNat)
  case atStart => exact ⟨0, rfl, Nat.zero_le _, Below.refl _ _⟩
  case round =>
    obtain ⟨k, rfl, HJ⟩ := hrel
    have hc := HC.out wr k HJ.out.2 HJ.out.1
    by_cases hkm : k = m
    · subst hkm
      rw [decide_eq_true rfl] at hc
      have HCC : Hid (Calls Tryd.prog 32 #[.slice (some ⟨nb, 0, none⟩) nd.length nd.length, .int .i64 (k : Int)] wr fun e w' => e = .returned (.bool true) ∧ Below w.heap.size w w') := hc
      clear hc HC HJ
      go_wp2_with fail
      refine HCC.out.mono ?_
      rintro e w3 ⟨rfl, hb3⟩
      have HB : Hid (Below w.heap.size w w3) := hb3
      clear hb3 HCC
      go_wp2
      go_ret
      exact ⟨rfl, HB.out⟩
    · rw [decide_eq_false hkm] at hc
      have HCC : Hid (Calls Tryd.prog 32 #[.slice (some ⟨nb, 0, none⟩) nd.length nd.length, .int .i64 (k : Int)] wr fun e w' => e = .returned (.bool false) ∧ Below w.heap.size w w') := hc
      have HKM : Hid (k + 1 ≤ m) := by have := HJ.out.1; unfold Hid; omega
      have N4 : Hid (wrap64 ((k : Int) + 1) = (k : Int) + 1) := by have := HN.out; have := HKM.out; unfold Hid wrap64; omega
      clear hc hkm
      go_wp2_with fail
      refine HCC.out.mono ?_
      rintro e w3 ⟨rfl, hb3⟩
      have HB : Hid (Below w.heap.size w w3) := hb3
      clear hb3 HCC
      go_wp2
      exact ⟨⟨k + 1, by rw [N4.out]; rfl, HKM.out, HB.out⟩, by rw [N4.out]; have := HKM.out; simp [intOf]; omega⟩
end Go.Proofs.YtpkgingjmgakbaaDoor
