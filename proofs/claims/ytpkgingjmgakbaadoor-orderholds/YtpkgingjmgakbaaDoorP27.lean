/-
  package flat: areFormed BY CONTRACT: the walk.
-/
import Derived.Test.YtpkgingjmgakbaaDoorP26
namespace Go.Proofs.YtpkgingjmgakbaaDoor
open Go.RowKit Go.Maps

def lenV : Value → Nat
  | .slice _ n _ => n
  | _ => 0
set_option maxRecDepth 100000 in
set_option maxHeartbeats 4000000 in
theorem areFormed_any (kd : List UInt8 → Option Int) (w : World) (K nK : Nat) (hK : FnAt w K nK (kindF kd)) (S S0 : Nat → Prop) (hS : ∀ b, S b → b < w.heap.size → ∃ cs t, w.heap[b]? = some (.cells cs t (0, 0))) (l : List Ex) (o : Option Addr) (c : Nat) (ys : List Value) (hrow : RowAt w S0 4 (.slice o l.length c) l.length ys) (hex : ExIn w S l ys) (hnil : l.length = 0 → (o = none ∧ c = 0) ∨ ∃ b off, o = some ⟨b, off, none⟩) (hl : l.length ≤ 4000) (hsz : szL l ≤ 100000) (hsm : smL l) :
    Calls Tryd.prog 25 #[.slice o l.length c, .map (some K)] w fun e w' => Below w.heap.size w w' ∧ e = .returned (.bool (fmL kd l)) := by
  obtain ⟨i0, hi0, hz0, hz1, hz2⟩ := info_parts Tryd.infoTerm
  have hmm := @run_makeMap Tryd.prog
  obtain ⟨Q, rs, rfl, hcl, hQ⟩ := hex.cl
  have hln := hcl.length
  have htr : ∀ e ∈ l, (smE e ∧ szE e ≤ 100000) ∧ (fmL kd l = true → fmE kd e = true) := fun e he => by
    obtain ⟨i, hi⟩ := List.mem_iff_getElem?.1 he
    exact ⟨⟨smL_at hsm hi, Nat.le_trans (szL_at hi) hsz⟩, fun h => fmL_at h hi⟩
  rw [hln] at hrow hnil hl hQ ⊢
  have hcn := cloneE_any w S0 rs.length (cellsL rs) o c hrow (cellsL_length rs) (cellsL_one rs) hnil hl
  have HCN : Hid (Calls Tryd.prog 41 #[.slice o rs.length c] w fun e w' => ∃ g cap, e = .returned (.slice g rs.length cap) ∧ w'.ownsRow w.heap.size 32 4 (.slice g rs.length cap) rs.length (cellsL rs) ∧ Below w.heap.size w w') := hcn
  have HQ : Hid (Q.length + rs.length ≤ 100000 ∧ rs.length ≤ 4000) := ⟨Nat.le_trans hQ hsz, hl⟩
  have HCL : Hid (Cl w S Q l rs) := hcl
  have HTR : Hid (∀ e ∈ l, (smE e ∧ szE e ≤ 100000) ∧ (fmL kd l = true → fmE kd e = true)) := htr
  have HK : Hid (FnAt w K nK (kindF kd)) := hK
  have HS : Hid (∀ b, S b → b < w.heap.size → ∃ cs t, w.heap[b]? = some (.cells cs t (0, 0))) := hS
  clear hrow hex hnil hl hsz hsm hln hcl hcn hK hS htr hQ
  go_enter Tryd.func25, Tryd.ntmps25
  go_wp2_with fail
  refine HCN.out.mono ?_
  rintro e w1 ⟨g0, cap0, rfl, hown1, hb1⟩
  obtain ⟨w2, hw2⟩ : ∃ w2, w2 = w1.alloc (.map #[] 0) := ⟨_, rfl⟩
  obtain ⟨KP, hKP⟩ : ∃ KP, KP = w1.heap.size := ⟨_, rfl⟩
  have h0 : AfS kd w S Q KP l rs w2 (fun _ => False) (.slice g0 rs.length cap0) l rs (fun _ => 0) 0 := by
    rw [hw2, hKP]
    exact ⟨hown1.alloc _, fun h => by have := (hown1.lt _ h).2; omega, PlAt.made _ _, hb1.size, hb1.alloc hb1.size _, HCL.out, fun a => ⟨Int.le_refl _, Int.le_refl _⟩, fun a h => absurd rfl h, fun q hq => .inl hq, HTR.out⟩
  have H0 : Hid (AfS kd w S Q KP l rs w2 (fun _ => False) (.slice g0 rs.length cap0) l rs (fun _ => 0) 0) := h0
  have HW2 : Hid (w1.alloc (.map #[] 0) = w2) := hw2.symm
  have HKP : Hid (w1.heap.size = KP) := hKP.symm
  clear hown1 hb1 hw2 hKP h0 HCN
  go_wp2
  rw [HW2.out, HKP.out]
  go_loopw [5] (fun v wr => ∃ (wk : List Ex) (ns : List Nd) (f : Addr → Int) (k : Nat) (so : Option Addr) (sc : Nat), v = .slice so ns.length sc ∧ Hid (AfS kd w S Q KP l rs wr (fun _ => False) (.slice so ns.length sc) wk ns f (k * 100000) ∧ 2 * left Q f + ns.length + k ≤ 300000)) (fun v wr => 2 * left Q (@Classical.epsilon (Addr → Int) ⟨fun _ => 0⟩ (PlAt wr KP (PlOld w))) + lenV v)
  case atStart => exact ⟨l, rs, _, 0, g0, cap0, rfl, ⟨by simpa using H0.out, by have h1 := HQ.out; have h2 := left_le Q (fun _ => 0); omega⟩⟩
  case round =>
    obtain ⟨wk, ns0, f, k, so, sc, rfl, HJ⟩ := hrel
    rcases List.eq_nil_or_concat ns0 with rfl | ⟨ns, q, hq⟩
    · have HE : Hid (fmL kd l = true ∧ Below w.heap.size w wr) := ⟨HJ.out.1.end HCL.out, HJ.out.1.below⟩
      clear HJ
      simp only [List.length_nil]
      go_wp2
      go_ret
      exact ⟨HE.out.2, by rw [HE.out.1]; rfl⟩
    · rw [List.concat_eq_append] at hq
      subst hq
      have hle : (ns ++ [q]).length = ns.length + 1 := by simp
      rw [hle] at HJ ⊢
      have hrr : wr.ownsRow w.heap.size 32 4 (.slice so (ns.length + 1) sc) (ns.length + 1) (cellsL (ns ++ [q])) := by have := HJ.out.1.row; rwa [hle] at this
      obtain ⟨g, cap, es, hbs, _⟩ := hrr.form (by omega)
      obtain ⟨rfl, rfl⟩ : so = some ⟨g, 0, none⟩ ∧ sc = cap := by simpa using es
      obtain ⟨wk', e, hc1, hse, hte, hP⟩ := HJ.out.1.pop
      have hce := HJ.out.1.row.cells (g := g) rfl
      obtain ⟨x0, x1, x2, x3⟩ := cellsL_at (l := ns ++ [q]) (i := ns.length) (q := q) (by simp)
      have y0 := hce _ _ x0
      have y1 := hce _ _ x1
      have y2 := hce _ _ x2
      have y3 := hce _ _ x3
      rw [Addr.add_lit, Nat.zero_add] at y0 y1 y2 y3
      obtain ⟨es', ms, rfl, hqm, hrw, hpl, hcl'⟩ := hc1.one
      obtain ⟨op, n, s, oq, mq, cq⟩ := q
      simp only at y0 y1 y2 y3 hqm hrw hpl
      have HM : Hid (2 * left Q f + (ns.length + 1) + k ≤ 300000) := HJ.out.2
      have HP : Hid (AfS kd w S Q KP l rs wr (fun r => r = ⟨op, n, s, oq, mq, cq⟩) (.slice (some ⟨g, 0, none⟩) ns.length sc) wk' ns f (k * 100000)) := hP
      have HQM : Hid (mq = es'.length) := hqm
      have HRW : Hid (RowAt w S 4 (.slice oq mq cq) mq (cellsL ms)) := hrw
      have HPL : Hid (∀ b off i, oq = some ⟨b, off, none⟩ → i < mq → (⟨b, off + i * 4, none⟩ : Addr) ∈ Q) := hpl
      have HCE : Hid (Cl w S Q es' ms) := hcl'
      have HSE : Hid ((smE (.mk op n s es') ∧ szE (.mk op n s es') ≤ 100000) ∧ (fmL kd l = true → fmE kd (.mk op n s es') = true)) := ⟨hse, hte⟩
      obtain ⟨m, hm⟩ : ∃ m, m = ns.length := ⟨_, rfl⟩
      rw [← hm] at y0 y1 y2 y3 HP HM ⊢
      have HMM : Hid (m = ns.length) := hm
      have hcm : m ≤ sc ∧ sc ≠ 0 := by
        rcases hrr.2 with ⟨h, _⟩ | ⟨_, _, _, h, _, _, h2, _⟩
        · cases h
        · injection h with h3 h4 h5
          omega
      obtain ⟨hcm, hc0⟩ := hcm
      have i0' : (0 : Int) ≤ (m : Int) := by omega
      have i1' : (m : Int) < (m : Int) + 1 := by omega
      have N1 : wrap64 (m : Int) = (m : Int) := by have := HM.out; unfold wrap64; omega
      obtain ⟨w4, hw4⟩ : ∃ w4, w4 = wr.alloc (.cells #[.string op, .int .i64 n, .string s, .slice oq mq cq] 32) := ⟨_, rfl⟩
      have hb4 : Below wr.heap.size wr w4 := by rw [hw4]; exact (Below.refl _ _).alloc (Nat.le_refl _) _
      have hr4 : w4.heap[wr.heap.size]? = some (.cells #[.string op, .int .i64 n, .string s, .slice oq mq cq] 32 (0, 0)) := by rw [hw4]; exact heap_alloc_new _ _
      have hw0 : Below w.heap.size w w4 := HP.out.below.trans (hb4.mono HP.out.below.size)
      have z0 : w4.cell? ⟨wr.heap.size, 0, none⟩ = some (.string op) := by rw [cell_of_row w4 _ _ _ _ (0, 0) hr4]; rfl
      have z1 : w4.cell? ⟨wr.heap.size, 0 + 1, none⟩ = some (.int .i64 n) := by rw [cell_of_row w4 _ _ _ _ (0, 0) hr4]; rfl
      have z2 : w4.cell? ⟨wr.heap.size, 0 + 2, none⟩ = some (.string s) := by rw [cell_of_row w4 _ _ _ _ (0, 0) hr4]; rfl
      have z3 : w4.cell? ⟨wr.heap.size, 0 + 3, none⟩ = some (.slice oq mq cq) := by rw [cell_of_row w4 _ _ _ _ (0, 0) hr4]; rfl
      have hsm : s.size ≤ maxLen := by have := HSE.out.1.1; unfold smE at this; exact this.2.1
      have HIF : Hid (Calls Tryd.prog 42 #[.agg #[.string op, .int .i64 n, .string s, .slice oq mq cq], .map (some K)] w4 fun e w' => Below w4.heap.size w4 w' ∧ e = .returned (.bool (formF kd op n s mq))) := isFormed_any kd w4 K nK (HK.out.kept (hw0.block _ HK.out.lt)) op n s hsm oq mq cq HRW.out.2.1
      have HP4 : Hid (AfS kd w S Q KP l rs w4 (fun r => r = ⟨op, n, s, oq, mq, cq⟩) (.slice (some ⟨g, 0, none⟩) m sc) wk' ns f (k * 100000)) := HP.out.beyond hb4
      have HR4 : Hid (w4.heap[wr.heap.size]? = some (.cells #[.string op, .int .i64 n, .string s, .slice oq mq cq] 32 (0, 0))) := hr4
      have HGE : Hid (g < wr.heap.size ∧ PlAt wr KP (PlOld w) f) := ⟨by assumption, HP.out.mp⟩
      have HGF : Hid (@Classical.epsilon (Addr → Int) ⟨fun _ => 0⟩ (PlAt wr KP (PlOld w)) = f) := (Classical.epsilon_spec (p := PlAt wr KP (PlOld w)) ⟨f, HP.out.mp⟩).one HP.out.mp
      have HMX : Hid (mq ≤ 100000) := by
        have h1 := HSE.out.1.2
        have h2 := szL_len es'
        simp only [szE] at h1
        rw [HQM.out]
        unfold Hid
        omega
      have HW4 : Hid (wr.alloc (.cells #[.string op, .int .i64 n, .string s, .slice oq mq cq] 32) = w4) := hw4.symm
      obtain ⟨eb, heb⟩ : ∃ eb, eb = wr.heap.size := ⟨_, rfl⟩
      clear HJ hle es hbs hc1 hse hte hP hce x0 x1 x2 x3 hqm hrw hpl hcl' hm hw4 hb4 hr4 hw0 hsm hrr HP
      go_upto_region 5 with fail
      rw [HW4.out]
      rw [← heb] at z0 z1 z2 z3 HR4 ⊢
      have HEB : Hid (eb = wr.heap.size) := heb
      clear y0 y1 y2 y3 heb
      go_upto_region 6 with fail
      go_wp2_with fail
      refine HIF.out.mono ?_
      rintro e w5 ⟨hb5, rfl⟩
      obtain ⟨fb, hfb⟩ : ∃ fb, fb = formF kd op n s mq := ⟨_, rfl⟩
      rw [← hfb]
      have HFB : Hid (fb = formF kd op n s mq) := hfb
      have HP5 : Hid (AfS kd w S Q KP l rs w5 (fun r => r = ⟨op, n, s, oq, mq, cq⟩) (.slice (some ⟨g, 0, none⟩) m sc) wk' ns f (k * 100000)) := HP4.out.beyond hb5
      have hr5 := row_keep hb5 HR4.out
      have q3 : w5.cell? ⟨eb, 0 + 3, none⟩ = some (.slice oq mq cq) := by rw [cell_of_row w5 _ _ _ _ (0, 0) hr5]; rfl
      have HR5 : Hid (w5.heap[eb]? = some (.cells #[.string op, .int .i64 n, .string s, .slice oq mq cq] 32 (0, 0))) := hr5
      clear hb5 hr5 z0 z1 z2 z3 hfb HP4 HR4 HIF
      cases fb with
      | false =>
        have hnf : fmL kd l = false := by
          cases hh : fmL kd l with
          | false => rfl
          | true =>
            have := HSE.out.2 hh
            unfold fmE at this
            rw [← HQM.out, ← HFB.out] at this
            simp at this
        have HE : Hid (fmL kd l = false ∧ Below w.heap.size w w5) := ⟨hnf, HP5.out.below⟩
        clear hnf
        go_wp2
        go_ret
        exact ⟨HE.out.2, by rw [HE.out.1]; rfl⟩
      | true =>
        go_wp2
        clear q3
        go_loopw [5, 34] (fun v t wi => ∃ (wk1 : List Ex) (ns1 : List Nd) (f1 : Addr → Int) (i : Nat) (so : Option Addr) (sc1 : Nat), v = .slice so ns1.length sc1 ∧ t = .int .i64 i ∧ i ≤ mq ∧ Hid (AfS kd w S Q KP l rs wi (fun r => r = ⟨op, n, s, oq, mq, cq⟩) (.slice so ns1.length sc1) wk1 ns1 f1 (k * 100000 + i) ∧ Upto kd f1 ⟨op, n, s, oq, mq, cq⟩ i ∧ 2 * left Q f1 + ns1.length ≤ 2 * left Q f + m ∧ wi.heap[eb]? = some (.cells #[.string op, .int .i64 n, .string s, .slice oq mq cq] 32 (0, 0)) ∧ (Value.slice so ns1.length sc1).ownBlock ≠ some eb)) (fun _ t _ => mq - (intOf t).toNat)
        case atStart =>
          have hmm := HMM.out
          exact ⟨wk', ns, f, 0, some ⟨g, 0, none⟩, sc, by rw [← hmm], rfl, Nat.zero_le _, ⟨by rw [← hmm]; simpa using HP5.out, ⟨HFB.out.symm, fun b off i _ hi => absurd hi (by omega)⟩, by rw [← hmm]; exact Nat.le_refl _, HR5.out, fun h => by
            have h1 := HGE.out.1
            have h2 := HEB.out
            have h3 : g = eb := by simpa [Value.ownBlock] using h
            omega⟩⟩
        case round =>
          obtain ⟨wk1, ns1, f1, i, so, sc1, rfl, rfl, hi, HI⟩ := hrel
          by_cases him : i < mq
          · have hml : ms.length = mq := by rw [← HCE.out.length, HQM.out]
            obtain ⟨q, hq⟩ : ∃ q, ms[i]? = some q := ⟨_, List.getElem?_eq_getElem (by omega)⟩
            obtain ⟨b, off, cp, ev, hSb, hbl, _⟩ := HRW.out.at (by rw [cellsL_length]; omega)
            obtain ⟨rfl, rfl⟩ : oq = some ⟨b, off, none⟩ ∧ cq = cp := by simpa using ev
            obtain ⟨e, he, hc1⟩ := HCE.out.at hq
            have hnd := NdAt.of_row HRW.out hq
            have haQ := HPL.out b off i rfl him
            have hold : PlOld w ⟨b, off + i * 4, none⟩ := ⟨HS.out b hSb hbl, hbl⟩
            have hse : (smE e ∧ szE e ≤ 100000) ∧ (fmL kd l = true → fmE kd e = true) := ⟨⟨by
              have := HSE.out.1.1
              unfold smE at this
              exact smL_at this.2.2 he, by
              have h1 := HSE.out.1.2
              have h2 := szL_at he
              simp only [szE] at h1
              omega⟩, fun h => by
              have := HSE.out.2 h
              unfold fmE at this
              rw [Bool.and_eq_true] at this
              exact fmL_at this.2 he⟩
            obtain ⟨hA, hU, hL, hE, hO⟩ := HI.out
            have p3 : wr.cell? ⟨eb, 0 + 3, none⟩ = some (.slice (some ⟨b, off, none⟩) mq cq) := by rw [cell_of_row wr _ _ _ _ (0, 0) hE]; rfl
            have i0' : (0 : Int) ≤ (i : Int) := by omega
            have i1' : (i : Int) < (mq : Int) := by omega
            have hlk := hA.mp.look (PlOld.now hA.below) Tryd.underlying88 Tryd.underlying90 hi0 (by omega) (zero_int wr) hold
            have hmx := HMX.out
            have N4 : Hid (wrap64 ((i : Int) + 1) = (i : Int) + 1) := by unfold Hid wrap64; omega
            by_cases h0 : f1 ⟨b, off + i * 4, none⟩ = 0
            · rw [h0] at hlk
              obtain ⟨w6, hup, hp6, hg6⟩ := hA.mp.put (PlOld.now hA.below) Tryd.underlying88 Tryd.underlying90 hi0 (by omega) hold 1
              have hA6 := hA.put (x := 1) (by omega) hnd hp6 hg6
              have hlk2 := hA6.mp.look (PlOld.now hA6.below) Tryd.underlying88 Tryd.underlying90 hi0 (by omega) (zero_int w6) hold
              rw [if_pos rfl] at hlk2
              have y0 : w6.cell? ⟨b, off + i * 4, none⟩ = some (.string q.op) := cell_keep hA6.below (hnd 0 _ rfl)
              have y1 : w6.cell? ⟨b, off + i * 4 + 1, none⟩ = some (.int .i64 q.n) := cell_keep hA6.below (hnd 1 _ rfl)
              have y2 : w6.cell? ⟨b, off + i * 4 + 2, none⟩ = some (.string q.s) := cell_keep hA6.below (hnd 2 _ rfl)
              have y3 : w6.cell? ⟨b, off + i * 4 + 3, none⟩ = some (.slice q.o q.m q.c) := cell_keep hA6.below (hnd 3 _ rfl)
              have HA7 : Hid (AfS kd w S Q KP l rs (w6.alloc (.cells #[.string q.op, .int .i64 q.n, .string q.s, .slice q.o q.m q.c] 32)) (fun r => r = ⟨op, n, s, some ⟨b, off, none⟩, mq, cq⟩ ∨ r = q) (.slice so ns1.length sc1) wk1 ns1 (fun y => if y = ⟨b, off + i * 4, none⟩ then 1 else f1 y) (k * 100000 + i + 1)) := hA6.alloc _
              have HNW : Hid (∀ k x, (cellsN q)[k]? = some x → (w6.alloc (.cells #[.string q.op, .int .i64 q.n, .string q.s, .slice q.o q.m q.c] 32)).cell? ((⟨w6.heap.size, 0, none⟩ : Addr).add k) = some x) := World.news_of_block (heap_alloc_new w6 _)
              have hmo : ∀ y, f1 y ≠ 0 → (if y = (⟨b, off + i * 4, none⟩ : Addr) then (1 : Int) else f1 y) ≠ 0 := fun y hy => by split <;> omega
              have hll := left_less Q (g := fun y => if y = (⟨b, off + i * 4, none⟩ : Addr) then (1 : Int) else f1 y) haQ h0 (by rw [if_pos rfl]; omega) hmo
              have hM := HM.out
              have HUP : Hid (Upto kd (fun y => if y = (⟨b, off + i * 4, none⟩ : Addr) then (1 : Int) else f1 y) ⟨op, n, s, some ⟨b, off, none⟩, mq, cq⟩ (i + 1) ∧ 2 * left Q (fun y => if y = (⟨b, off + i * 4, none⟩ : Addr) then (1 : Int) else f1 y) + (ns1.length + 1) ≤ 2 * left Q f + m) := ⟨hU.next hmo rfl (by rw [if_pos rfl]; omega), by omega⟩
              have hke : KP < eb := by have := HGE.out.2.lt; rw [HEB.out]; exact this
              have hE6 := heap_grown' hg6 (fun e => by have : KP = eb := by simpa using e
                                                       omega) hE
              have HE7 : Hid ((w6.alloc (.cells #[.string q.op, .int .i64 q.n, .string q.s, .slice q.o q.m q.c] 32)).heap[eb]? = some (.cells #[.string op, .int .i64 n, .string s, .slice (some ⟨b, off, none⟩) mq cq] 32 (0, 0))) := row_keep ((Below.refl _ _).alloc (Nat.le_refl _) _) hE6
              have HO : Hid ((Value.slice so ns1.length sc1).ownBlock ≠ some eb) := hO
              have HMQ : Hid (ns1.length + 1 ≤ maxLen ∧ (ns1.length + 1) * 64 ≤ 140737488355328) := by unfold Hid maxLen; omega
              have HCS : Hid (Cl w S Q [e] [q] ∧ (smE e ∧ szE e ≤ 100000) ∧ (fmL kd l = true → fmE kd e = true)) := ⟨hc1, hse⟩
              have HIM : Hid (i + 1 ≤ mq) := him
              clear hml hq ev hSb hbl he hc1 hnd haQ hold hse hA hU hL hE hO hmx h0 hp6 hg6 hA6 hmo hll hM hke hE6 hi him HI
              go_upto_region 14 with fail
              clear hlk hlk2 hup p3
              go_wp2_with (at_builtin; refine wpList_append_lies _ rfl _ _ 27 rfl w.heap.size 32 i0 _ 4 64 Tryd.underlying27 hi0 hz0 hz1 hz2 rfl (by omega) (.slice so ns1.length sc1) ns1.length _ rfl HA7.out.row ⟨w6.heap.size, 0, none⟩ 1 1 (cellsN q) rfl rfl HNW.out (by simp [cellsN, Value.oneCell']) (by omega) HMQ.out.1 HMQ.out.2 HA7.out.below.size _ rfl ?_; intro g' cap' w7 hown7 hgrow7 hat7 hlt7)
              have hA8 := HA7.out.push HCS.out.1 HCS.out.2 hown7 hgrow7 hat7
              have hle : (ns1 ++ [q]).length = ns1.length + 1 := by simp
              have hlt := (Array.getElem?_eq_some_iff.1 HE7.out).1
              have hE8 := heap_grown' hgrow7 HO.out HE7.out
              refine ⟨⟨wk1 ++ [e], ns1 ++ [q], _, i + 1, some ⟨g', 0, none⟩, cap', by rw [hle], by rw [N4.out]; rfl, HIM.out, ⟨hA8.wide (by omega), HUP.out.1, by rw [hle]; exact HUP.out.2, hE8, fun h => ?_⟩⟩, by rw [N4.out]; have := HIM.out; simp [intOf]; omega⟩
              have h3 : g' = eb := by simpa [Value.ownBlock] using h
              rcases hat7 with h4 | h4
              · exact HO.out (by rw [h4, h3])
              · omega
            · obtain ⟨x, hx⟩ : ∃ x, x = f1 ⟨b, off + i * 4, none⟩ := ⟨_, rfl⟩
              rw [← hx] at hlk h0
              have hnn := hA.nn ⟨b, off + i * 4, none⟩
              have hM := HM.out
              rw [← hx] at hnn
              have hwx : wrap64 (x + 1) = x + 1 := by unfold wrap64; omega
              obtain ⟨y, hy⟩ : ∃ y, y = wrap64 (x + 1) := ⟨_, rfl⟩
              obtain ⟨w6, hup, hp6, hg6⟩ := hA.mp.put (PlOld.now hA.below) Tryd.underlying88 Tryd.underlying90 hi0 (by omega) hold y
              have hA6 := hA.again (x := y) (by rw [hy, hwx, hx]) (by rw [← hx]; exact h0) hp6 hg6
              have hlk2 := hA6.mp.look (PlOld.now hA6.below) Tryd.underlying88 Tryd.underlying90 hi0 (by omega) (zero_int w6) hold
              rw [if_pos rfl] at hlk2
              have d1 : (y == 1) = false := beq_eq_false_iff_ne.2 (by omega)
              rw [hy] at hup hlk2 d1
              have hmo : ∀ z, f1 z ≠ 0 → (if z = (⟨b, off + i * 4, none⟩ : Addr) then y else f1 z) ≠ 0 := fun z hz => by split <;> omega
              have hke : KP < eb := by have := HGE.out.2.lt; rw [HEB.out]; exact this
              have hE6 := heap_grown' hg6 (fun e => by have : KP = eb := by simpa using e
                                                       omega) hE
              have HEN : Hid (AfS kd w S Q KP l rs w6 (fun r => r = ⟨op, n, s, some ⟨b, off, none⟩, mq, cq⟩) (.slice so ns1.length sc1) wk1 ns1 (fun z => if z = (⟨b, off + i * 4, none⟩ : Addr) then y else f1 z) (k * 100000 + (i + 1 : Nat)) ∧ Upto kd (fun z => if z = (⟨b, off + i * 4, none⟩ : Addr) then y else f1 z) ⟨op, n, s, some ⟨b, off, none⟩, mq, cq⟩ (i + 1) ∧ 2 * left Q (fun z => if z = (⟨b, off + i * 4, none⟩ : Addr) then y else f1 z) + ns1.length ≤ 2 * left Q f + m ∧ w6.heap[eb]? = some (.cells #[.string op, .int .i64 n, .string s, .slice (some ⟨b, off, none⟩) mq cq] 32 (0, 0)) ∧ (Value.slice so ns1.length sc1).ownBlock ≠ some eb) := ⟨hA6.wide (by omega), hU.next hmo rfl (by rw [if_pos rfl]; omega), by have := left_more Q hmo; omega, hE6, hO⟩
              have HIM : Hid (i + 1 ≤ mq) := him
              clear hml hq ev hSb hbl he hc1 hnd haQ hold hse hA hU hL hE hO hmx h0 hp6 hg6 hA6 hmo hM hke hE6 hi him HI hnn hwx hx hy
              go_wp2
              exact ⟨⟨wk1, ns1, _, i + 1, so, sc1, rfl, by rw [N4.out]; rfl, HIM.out, HEN.out⟩, by rw [N4.out]; have := HIM.out; simp [intOf]; omega⟩
          · obtain rfl : i = mq := by omega
            have hA := HI.out.1.over HI.out.2.1
            have hl := HI.out.2.2.1
            have hM := HM.out
            have HEN : Hid (AfS kd w S Q KP l rs wr (fun _ => False) (.slice so ns1.length sc1) wk1 ns1 f1 ((k + 1 : Nat) * 100000) ∧ 2 * left Q f1 + ns1.length + (k + 1) ≤ 300000) := ⟨by
              refine ⟨hA.row, hA.ne, hA.mp, hA.kp, hA.below, hA.cl, fun a => ⟨(hA.nn a).1, ?_⟩, hA.done, hA.roots, hA.tru⟩
              have h1 := (hA.nn a).2
              have h2 := HMX.out
              omega, by omega⟩
            have HLT : Hid (@Classical.epsilon (Addr → Int) ⟨fun _ => 0⟩ (PlAt wr KP (PlOld w)) = f1 ∧ 2 * left Q f1 + ns1.length < 2 * left Q f + (m + 1)) := ⟨(Classical.epsilon_spec (p := PlAt wr KP (PlOld w)) ⟨f1, hA.mp⟩).one hA.mp, by omega⟩
            clear hA hl hM hi him HI
            go_wp2
            exact ⟨⟨wk1, ns1, f1, k + 1, so, sc1, rfl, HEN.out⟩, by rw [HGF.out, HLT.out.1]; exact HLT.out.2⟩
end Go.Proofs.YtpkgingjmgakbaaDoor
