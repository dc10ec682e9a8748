/-
  BRACKETS AROUND A TERM CHANGE NOTHING, IN PLAIN MATHEMATICS: the text of a node with one check, the same with brackets around its term, and how it is read.
-/
import Derived.Test.YtgbpccipdcajgaaGreatDoorQ19
import Derived.Test.YtgbpccipdcajgaaGreatDoorQ26
namespace Go.Proofs.YtgbpccipdcajgaaGreatDoor
def sA : ByteArray := ⟨#[97]⟩
theorem Lx.gaps {P Q : Int → Bool} {p q : List Pc} {x y : List UInt8} (h : Lx P p x) (g : Lx Q q y) (bl : List UInt8) (hb : ∀ c ∈ bl, c = 32 ∨ c = 10) (hp : ∃ c r, bl = c :: r ∧ P (c.toNat : Int) = true) : Lx Q (p ++ q) (x ++ (bl ++ y)) := by
 intro s l i0 i R S H st
 obtain ⟨H1, H2⟩ := H.split
 obtain ⟨H3, H4⟩ := H2.split
 obtain ⟨c, r, rfl, hc⟩ := hp
 obtain ⟨ts, R1, e1⟩ := h s l i0 i R S H1 fun _ => by rw [H3.head.2]; exact hc
 have el : i + (x ++ ((c :: r) ++ y)).length = i + x.length + (c :: r).length + y.length := by rw [List.length_append, List.length_append]; omega
 rw [el] at st ⊢
 have hsk : Skips s (i + x.length) (i + x.length + (c :: r).length) := Skips.blanks _ _ H3.le fun k hk => by
  rw [H3.at' k hk]
  rcases hb _ (List.getElem_mem hk) with h | h <;> rw [h] <;> rfl
 obtain ⟨us, R2, e2⟩ := g s _ _ _ R1 hsk H4 st
 exact ⟨ts ++ us, by rw [← List.append_assoc]; exact R2, by rw [List.map_append, e1, e2]⟩
theorem Has.whole (x : List UInt8) : Has (sOf x) 0 x := by
 have hs : (sOf x).toList = x := sOf_list x
 refine ⟨by rw [← bytes_len, hs]; omega, fun k hk => ?_⟩
 rw [Nat.zero_add, byteI_list (by rw [hs]; exact hk)]
 simp only [hs]
theorem AtP.drop (l : List Tk) : ∀ (n i : Nat), i + n = l.length → AtP l i ((l.drop i).map fun t => (t.kind, t.text))
 | 0, i, h => by rw [List.drop_eq_nil_of_le (by omega)]; exact trivial
 | n + 1, i, h => by
  rw [List.drop_eq_getElem_cons (by omega), List.map_cons]
  exact ⟨⟨dif_pos (by omega), dif_pos (by omega)⟩, AtP.drop l n (i + 1) (by omega)⟩
structure VarOk (v : Ex) : Prop where
 nm : NmOk v.op
 kind : v.n = 1 ∨ v.n = 2
def kindW (n : Int) : List UInt8 := if n = 1 then tBool else tInt
def oneP (v : Ex) : List Pc := [nameP v.op, opP tColon, wordP (kindW v.n)]
def moreP (r : List Ex) : List Pc := r.flatMap fun v => opP tSemi :: oneP v
def varsP : List Ex → List Pc
 | [] => []
 | v :: r => oneP v ++ moreP r
def canV (v : Ex) : Ex := .mk v.op v.n b0 []
def canN (v : Ex) : Ex := .mk v.op 0 b0 []

section
variable {l : List Tk} {i d : Nat}
theorem one_parse {v : Ex} (hv : VarOk v) (h : AtP l i (oneP v)) : Parse l .one i d (.ok [canV v] (i + 3)) := by
 obtain ⟨⟨k0, x0⟩, ⟨_, x1⟩, ⟨_, x2⟩, _⟩ := h
 have t0 : tkx l i = v.op := x0
 have t1 : tkx l (i + 1) = sOf tColon := x1
 have t2 : tkx l (i + 1 + 1) = sOf (kindW v.n) := x2
 have n0 : isName l i = true := (kName_yes k0).2
 show Run l (nameA l i fun j => expA l j tColon fun j => if tx l j tBool then retA [.mk (tkx l i) 1 b0 []] (j + 1) else expA l j tInt fun k => retA [.mk (tkx l i) 2 b0 []] k) _
 refine Run.nam n0 ?_
 refine Run.exp (by rw [tx_of t1]; decide) ?_
 rw [t0]
 rcases hv.kind with hk | hk
 ·refine Run.ifT (by rw [tx_of t2, kindW, if_pos hk]; decide) ?_
  have e : canV v = .mk v.op 1 b0 [] := by rw [canV, hk]
  rw [e]
  exact Run.done
 ·refine Run.ifF (by rw [tx_of t2, kindW, if_neg (by omega)]; decide) ?_
  refine Run.exp (by rw [tx_of t2, kindW, if_neg (by omega)]; decide) ?_
  have e : canV v = .mk v.op 2 b0 [] := by rw [canV, hk]
  rw [e]
  exact Run.done
theorem moreP_cons (v : Ex) (r : List Ex) : moreP (v :: r) = opP tSemi :: (oneP v ++ moreP r) := rfl
theorem moreP_len : ∀ r : List Ex, (moreP r).length = 4 * r.length
 | [] => rfl
 | v :: r => by
  rw [moreP_cons, List.length_cons, List.length_append, moreP_len r, List.length_cons]
  show 3 + 4 * r.length + 1 = _
  omega
theorem vars_more : ∀ (r acc : List Ex) (i : Nat), (∀ v ∈ r, VarOk v) → AtP l i (moreP r) → tx l (i + 4 * r.length) tSemi = false → Parse l (.vars acc) i d (.ok (acc ++ r.map canV) (i + 4 * r.length))
 | [], acc, i, _, _, hs => by
  rw [List.map_nil, List.append_nil]
  exact Run.ifF hs Run.done
 | v :: r, acc, i, hv, ha, hs => by
  rw [moreP_cons] at ha
  obtain ⟨⟨_, x0⟩, ha⟩ := ha
  obtain ⟨a1, a2⟩ := ha.split
  have t0 : tkx l i = sOf tSemi := x0
  have h1 := one_parse (d := d) (hv v List.mem_cons_self) a1
  have e : i + 4 * (v :: r).length = i + 1 + 3 + 4 * r.length := by rw [List.length_cons]; omega
  rw [e] at hs ⊢
  have h2 := vars_more r (acc ++ [canV v]) (i + 1 + 3) (fun x hx => hv x (List.mem_cons_of_mem _ hx)) a2 hs
  rw [List.append_assoc] at h2
  exact Run.ifT (by rw [tx_of t0]; decide) (Run.then h1 (Run.tail h2))
theorem vars_parse {v : Ex} {r : List Ex} (hv : ∀ x ∈ v :: r, VarOk x) (h : AtP l i (varsP (v :: r))) (hs : tx l (i + (varsP (v :: r)).length) tSemi = false) {k : List Ex → Nat → Act} {res : Res} (hk : Run l (k ((v :: r).map canV) (i + (varsP (v :: r)).length)) res) : Run l (.call .one i d fun o i => .call (.vars o) i d k) res := by
 obtain ⟨a1, a2⟩ := h.split
 have h1 := one_parse (d := d) (hv v List.mem_cons_self) a1
 have e : i + (varsP (v :: r)).length = i + 3 + 4 * r.length := by
  show i + (oneP v ++ moreP r).length = _
  rw [List.length_append, moreP_len]
  show i + (3 + 4 * r.length) = _
  omega
 rw [e] at hs hk
 have h2 := vars_more (d := d) r [canV v] (i + 3) (fun x hx => hv x (List.mem_cons_of_mem _ hx)) a2 hs
 exact Run.then h1 (Run.then h2 hk)
theorem owns_parse : ∀ (r : List Ex) (v : Ex) (acc : List Ex) (i : Nat), (∀ x ∈ v :: r, VarOk x) → AtP l i (varsP (v :: r) ++ [opP tSemi]) → isName l (i + (varsP (v :: r)).length + 1) = false → Parse l (.owns acc) i d (.ok (acc ++ (v :: r).map canV) (i + (varsP (v :: r)).length + 1))
 | [], v, acc, i, hv, ha, hn => by
  obtain ⟨a1, ⟨_, x1⟩, _⟩ := ha.split
  have a1' : AtP l i (oneP v) := by
   have : varsP [v] = oneP v := List.append_nil _
   rw [← this]; exact a1
  have e : (varsP [v]).length = 3 := rfl
  rw [e] at hn x1 ⊢
  have t1 : tkx l (i + 3) = sOf tSemi := x1
  exact Run.then (one_parse (hv v List.mem_cons_self) a1') (Run.exp (by rw [tx_of t1]; decide) (Run.ifF hn Run.done))
 | w :: r, v, acc, i, hv, ha, hn => by
  have ep : varsP (v :: w :: r) ++ [opP tSemi] = oneP v ++ (opP tSemi :: (varsP (w :: r) ++ [opP tSemi])) := by
   show oneP v ++ moreP (w :: r) ++ [opP tSemi] = _
   rw [moreP_cons, List.append_assoc]
   rfl
  have el : (varsP (v :: w :: r)).length = 4 + (varsP (w :: r)).length := by
   show (oneP v ++ moreP (w :: r)).length = 4 + (oneP w ++ moreP r).length
   rw [moreP_cons, List.length_append, List.length_cons]
   show 3 + ((oneP w ++ moreP r).length + 1) = _
   omega
  rw [ep] at ha
  obtain ⟨a1, ⟨_, x1⟩, a2⟩ := ha.split
  have t1 : tkx l (i + 3) = sOf tSemi := x1
  have k2 : isName l (i + 3 + 1) = true := by
   obtain ⟨⟨k, _⟩, _⟩ := a2
   exact (kName_yes k).2
  have e2 : i + (varsP (v :: w :: r)).length + 1 = i + 3 + 1 + (varsP (w :: r)).length + 1 := by omega
  rw [e2] at hn ⊢
  have h2 := owns_parse r w (acc ++ [canV v]) (i + 3 + 1) (fun x hx => hv x (List.mem_cons_of_mem _ hx)) a2 hn
  rw [List.append_assoc] at h2
  exact Run.then (one_parse (hv v List.mem_cons_self) a1) (Run.exp (by rw [tx_of t1]; decide) (Run.ifT k2 (Run.tail h2)))
def nmsP (r : List Ex) : List Pc := r.flatMap fun v => [opP tComma, nameP v.op]
theorem nmsP_len : ∀ r : List Ex, (nmsP r).length = 2 * r.length
 | [] => rfl
 | v :: r => by
  show (opP tComma :: nameP v.op :: nmsP r).length = _
  rw [List.length_cons, List.length_cons, nmsP_len r, List.length_cons]
  omega
theorem names_more : ∀ (r acc : List Ex) (i : Nat), AtP l i (nmsP r) → tx l (i + 2 * r.length) tComma = false → Parse l (.names acc) i d (.ok (acc ++ r.map canN) (i + 2 * r.length))
 | [], acc, i, _, hs => by
  rw [List.map_nil, List.append_nil]
  exact Run.ifF hs Run.done
 | v :: r, acc, i, ha, hs => by
  obtain ⟨⟨_, x0⟩, ⟨k1, x1⟩, a2⟩ := ha
  have t0 : tkx l i = sOf tComma := x0
  have t1 : tkx l (i + 1) = v.op := x1
  have e : i + 2 * (v :: r).length = i + 1 + 1 + 2 * r.length := by rw [List.length_cons]; omega
  rw [e] at hs ⊢
  have h2 := names_more r (acc ++ [canN v]) (i + 1 + 1) a2 hs
  rw [List.append_assoc] at h2
  have hn : nm l (i + 1) = canN v := by rw [nm, t1]; rfl
  have h2' : Parse l (.names (acc ++ [nm l (i + 1)])) (i + 1 + 1) d (.ok (acc ++ ([canN v] ++ r.map canN)) (i + 1 + 1 + 2 * r.length)) := by rw [hn]; exact h2
  exact Run.ifT (by rw [tx_of t0]; decide) (Run.nam (kName_yes k1).2 (Run.tail h2'))
end

inductive EqP : Ex → Nat → List Pc → List UInt8 → Prop
 | chk (y : List UInt8) (ns : List Ex) (e : Ex) (k : Nat) (p : List Pc) (x : List UInt8) : y ∈ [tAssert, tCheck] → ns = [] → Pr 0 e k p x → EqP (.mk (sOf y) 0 b0 [lst ns, e]) k (wordP y :: (p ++ [opP tSemi])) (y ++ (32 :: (x ++ tSemi)))
 | one (v e : Ex) (k : Nat) (p : List Pc) (x : List UInt8) : NmOk v.op → Pr 0 e k p x → EqP (.mk sSet 0 b0 [lst [v], e]) k (nameP v.op :: opP tEq :: (p ++ [opP tSemi])) (v.op.toList ++ (32 :: (tEq ++ (32 :: (x ++ tSemi)))))
 | many (v u : Ex) (r : List Ex) (e : Ex) (k : Nat) (p : List Pc) (x z : List UInt8) : (∀ n ∈ v :: u :: r, NmOk n.op) → Lx offI (nameP v.op :: nmsP (u :: r)) z → Pr 0 e k p x → EqP (.mk sSet 0 b0 [lst (v :: u :: r), e]) k (opP tOpen :: nameP v.op :: (nmsP (u :: r) ++ opP tShut :: opP tEq :: (p ++ [opP tSemi]))) (tOpen ++ (z ++ (tShut ++ (32 :: (tEq ++ (32 :: (x ++ tSemi)))))))
def canQ (q : Ex) : Ex := match q with
 | .mk kind _ _ (a :: e :: _) => .mk kind 0 b0 [lst (a.l.map canN), e]
 | q => q
theorem end_goes {l : List Tk} {i : Nat} {e : Ex} {k : Nat} {p : List Pc} {x : List UInt8} (h : Pr 0 e k p x) (ha : AtP l i (p ++ [opP tSemi])) (kind : ByteArray) (ns : List Ex) : (k ≤ 20 → Run l (endA l kind ns i 0) (.ok [.mk kind 0 b0 [lst ns, e]] (i + p.length + 1))) ∧ (20 < k → ∃ j, Run l (endA l kind ns i 0) (.bad j true)) := by
 obtain ⟨a1, ⟨_, x1⟩, _⟩ := ha.split
 have t1 : tkx l (i + p.length) = sOf tSemi := x1
 have G := h.goes l i 0 (by omega) a1 0 (by omega) (Nx.of t1 (by decide))
 refine ⟨fun hk => ?_, fun hk => ?_⟩
 ·have ot : Parse l .term i 0 (.ok [e] (i + p.length)) := G.ok (by omega)
  exact Run.then ot (Run.exp (by rw [tx_of t1]; decide) Run.done)
 ·obtain ⟨j, hj⟩ := G.bad (by omega)
  exact ⟨j, Run.stop hj⟩
theorem EqP.goes {q : Ex} {k : Nat} {p : List Pc} {x : List UInt8} (h : EqP q k p x) (l : List Tk) (i : Nat) (ha : AtP l i p) : (k ≤ 20 → Parse l .eq i 0 (.ok [canQ q] (i + p.length))) ∧ (20 < k → ∃ j, Parse l .eq i 0 (.bad j true)) := by
 cases h with
 | chk y ns e k p x hy hns hp =>
  subst hns
  obtain ⟨⟨_, x0⟩, a1⟩ := ha
  have t0 : tkx l i = sOf y := x0
  have c0 : txs l i [tAssert, tCheck] = true := txs_of t0 hy
  obtain ⟨g1, g2⟩ := end_goes hp a1 (tkx l i) []
  have el : i + (wordP y :: (p ++ [opP tSemi])).length = i + 1 + p.length + 1 := by simp; omega
  rw [el]
  refine ⟨fun hk => ?_, fun hk => ?_⟩
  ·have := g1 hk
   rw [t0] at this
   have h2 : Parse l .eq i 0 (.ok [.mk (sOf y) 0 b0 [lst [], e]] (i + 1 + p.length + 1)) := Run.ifT c0 (by rw [t0]; exact this)
   exact h2
  ·obtain ⟨j, hj⟩ := g2 hk
   exact ⟨j, Run.ifT c0 hj⟩
 | one v e k p x hv hp =>
  obtain ⟨⟨k0, x0⟩, ⟨_, x1⟩, a1⟩ := ha
  have t0 : tkx l i = v.op := x0
  have t1 : tkx l (i + 1) = sOf tEq := x1
  have c0 : txs l i [tAssert, tCheck] = false := hv.txs t0 (by decide)
  have c1 : tx l i tOpen = false := by
   rw [tx, t0]
   exact beq_eq_false_iff_ne.2 (first_ne hv.pos fun c hc => by
    cases hc
    have := hv.low
    simp only [lowI, Bool.and_eq_true, decide_eq_true_eq] at this
    show (40 : Int) ≠ _
    omega)
  obtain ⟨g1, g2⟩ := end_goes hp a1 sSet [nm l i]
  have hn : nm l i = canN v := by rw [nm, t0]; rfl
  rw [hn] at g1 g2
  have el : i + (nameP v.op :: opP tEq :: (p ++ [opP tSemi])).length = i + 1 + 1 + p.length + 1 := by simp; omega
  rw [el]
  have into : ∀ {r : Res}, Run l (endA l sSet [canN v] (i + 1 + 1) 0) r → Parse l .eq i 0 r := fun {r} hr => by
   refine Run.ifF c0 ?_
   refine Run.ifF c1 ?_
   refine Run.nam (kName_yes k0).2 ?_
   refine Run.exp (by rw [tx_of t1]; decide) ?_
   show Run l (endA l sSet [nm l i] (i + 1 + 1) 0) r
   rw [hn]
   exact hr
  exact ⟨fun hk => into (g1 hk), fun hk => (g2 hk).imp fun _ hj => into hj⟩
 | many v u r e k p x z hv hz hp =>
  obtain ⟨⟨k0, x0⟩, ⟨k1, x1⟩, a1⟩ := ha
  have t0 : tkx l i = sOf tOpen := x0
  have t1 : tkx l (i + 1) = v.op := x1
  obtain ⟨a2, ⟨_, x2⟩, ⟨_, x3⟩, a3⟩ := a1.split
  have hl2 : (nmsP (u :: r)).length = 2 * (u :: r).length := nmsP_len _
  have t2 : tkx l (i + 1 + 1 + (nmsP (u :: r)).length) = sOf tShut := x2
  have t3 : tkx l (i + 1 + 1 + (nmsP (u :: r)).length + 1) = sOf tEq := x3
  obtain ⟨⟨_, y0⟩, ⟨m1, y1⟩, a4⟩ := a2
  have s0 : tkx l (i + 1 + 1) = sOf tComma := y0
  have s1 : tkx l (i + 1 + 1 + 1) = u.op := y1
  have hle : (nmsP (u :: r)).length = 2 + 2 * r.length := by rw [hl2, List.length_cons]; omega
  have hm := names_more (d := 0) r [canN v, canN u] (i + 1 + 1 + 1 + 1) a4 (by
   have e : i + 1 + 1 + 1 + 1 + 2 * r.length = i + 1 + 1 + (nmsP (u :: r)).length := by omega
   rw [e, tx_of t2]; decide)
  have e1 : i + 1 + 1 + 1 + 1 + 2 * r.length = i + 1 + 1 + (nmsP (u :: r)).length := by omega
  rw [e1] at hm
  have c0 : txs l i [tAssert, tCheck] = false := by rw [txs, List.any_eq_false]; intro y hy; rw [tx_of t0]; revert y; decide
  obtain ⟨g1, g2⟩ := end_goes hp a3 sSet ([canN v, canN u] ++ r.map canN)
  have hnv : nm l (i + 1) = canN v := by rw [nm, t1]; rfl
  have hnu : nm l (i + 1 + 1 + 1) = canN u := by rw [nm, s1]; rfl
  have el : i + (opP tOpen :: nameP v.op :: (nmsP (u :: r) ++ opP tShut :: opP tEq :: (p ++ [opP tSemi]))).length = i + 1 + 1 + (nmsP (u :: r)).length + 1 + 1 + p.length + 1 := by simp; omega
  rw [el]
  have into : ∀ {res : Res}, Run l (endA l sSet ([canN v, canN u] ++ r.map canN) (i + 1 + 1 + (nmsP (u :: r)).length + 1 + 1) 0) res → Parse l .eq i 0 res := fun {res} hr => by
   refine Run.ifF c0 ?_
   refine Run.ifT (by rw [tx_of t0]; decide) ?_
   refine Run.nam (kName_yes k1).2 ?_
   refine Run.exp (by rw [tx_of s0]; decide) ?_
   refine Run.nam (kName_yes m1).2 ?_
   show Run l (.call (.names [nm l (i + 1), nm l (i + 1 + 1 + 1)]) (i + 1 + 1 + 1 + 1) 0 fun ns j => expA l j tShut fun j => expA l j tEq fun j => endA l sSet ns j 0) res
   rw [hnv, hnu]
   refine Run.then hm ?_
   refine Run.exp (by rw [tx_of t2]; decide) ?_
   refine Run.exp (by rw [tx_of t3]; decide) ?_
   exact hr
  exact ⟨fun hk => into (g1 hk), fun hk => (g2 hk).imp fun _ hj => into hj⟩
def oneX (v : Ex) : List UInt8 := v.op.toList ++ (tColon ++ (32 :: kindW v.n))
def moreX (r : List Ex) : List UInt8 := r.flatMap fun v => tSemi ++ (32 :: oneX v)
def nmsX (r : List Ex) : List UInt8 := r.flatMap fun v => tComma ++ (32 :: v.op.toList)
theorem kindX_ok {v : Ex} (h : VarOk v) : kindX v.n = some (kindW v.n) := by
 rcases h.kind with hk | hk <;> rw [hk] <;> rfl
theorem varX_ok {v : Ex} (h : VarOk v) (i : Nat) : varX i v = catX (sepX [59, 32] i) (some (oneX v)) := by
 rw [varX, kindX_ok h, catX_some, data_list]
 congr 2
 simp [oneX, tColon]
theorem more_tx : ∀ (r : List Ex) (i : Nat), (∀ v ∈ r, VarOk v) → lstX varX (i + 1) r = some (moreX r)
 | [], _, _ => rfl
 | v :: r, i, h => by
  show catX (varX (i + 1) v) (lstX varX (i + 1 + 1) r) = _
  rw [more_tx r (i + 1) fun x hx => h x (List.mem_cons_of_mem _ hx), varX_ok (h v List.mem_cons_self), sepX, if_pos (by omega), catX_some, catX_some]
  simp [moreX, tSemi]
theorem vars_tx {v : Ex} {r : List Ex} (h : ∀ x ∈ v :: r, VarOk x) : lstX varX 0 (v :: r) = some (oneX v ++ moreX r) := by
 show catX (varX 0 v) (lstX varX (0 + 1) r) = _
 rw [more_tx r 0 fun x hx => h x (List.mem_cons_of_mem _ hx), varX_ok (h v List.mem_cons_self), sepX, if_neg (by omega), catX_some, catX_some]
 rfl
theorem kindW_word (n : Int) : kindW n ∈ wordL := by unfold kindW; split <;> decide
theorem one_lex {v : Ex} (h : VarOk v) : Lx offI (oneP v) (oneX v) := by
 have hc : Lx anyI [opP tColon] tColon := Lx.op1 (by decide) (by decide) (by decide) (by decide) (by decide)
 exact Lx.seq (p := [nameP v.op]) (Lx.name h.nm) (Lx.gap (p := [opP tColon]) hc (Lx.word (kindW_word v.n)) rfl) ⟨58, _, rfl, rfl⟩
theorem more_lex : ∀ (r : List Ex) {p : List Pc} {x : List UInt8}, (∀ v ∈ r, VarOk v) → Lx offI p x → Lx offI (p ++ moreP r) (x ++ moreX r)
 | [], p, x, _, h => by
  have e1 : moreP [] = [] := rfl
  have e2 : moreX [] = [] := rfl
  rw [e1, e2, List.append_nil, List.append_nil]
  exact h
 | v :: r, p, x, hv, h => by
  have hs : Lx anyI [opP tSemi] tSemi := Lx.op1 (by decide) (by decide) (by decide) (by decide) (by decide)
  have h1 : Lx offI (p ++ ([opP tSemi] ++ oneP v)) (x ++ (tSemi ++ (32 :: oneX v))) := Lx.seq h (Lx.gap hs (one_lex (hv v List.mem_cons_self)) rfl) ⟨59, _, rfl, rfl⟩
  have h2 := more_lex r (fun y hy => hv y (List.mem_cons_of_mem _ hy)) h1
  have e1 : p ++ moreP (v :: r) = p ++ ([opP tSemi] ++ oneP v) ++ moreP r := by rw [moreP_cons]; simp
  have e2 : x ++ moreX (v :: r) = x ++ (tSemi ++ (32 :: oneX v)) ++ moreX r := by
   have : moreX (v :: r) = tSemi ++ (32 :: oneX v) ++ moreX r := rfl
   rw [this]; simp
  rw [e1, e2]
  exact h2
theorem vars_lex {v : Ex} {r : List Ex} (h : ∀ x ∈ v :: r, VarOk x) : Lx offI (varsP (v :: r)) (oneX v ++ moreX r) := more_lex r (fun x hx => h x (List.mem_cons_of_mem _ hx)) (one_lex (h v List.mem_cons_self))
theorem nms_tx : ∀ (r : List Ex) (i : Nat), lstX nameX (i + 1) r = some (nmsX r)
 | [], _ => rfl
 | v :: r, i => by
  show catX (nameX (i + 1) v) (lstX nameX (i + 1 + 1) r) = _
  rw [nms_tx r (i + 1), nameX, sepX, if_pos (by omega), catX_some, catX_some, data_list]
  simp [nmsX, tComma]
theorem nms_lex : ∀ (r : List Ex) {p : List Pc} {x : List UInt8}, (∀ v ∈ r, NmOk v.op) → Lx offI p x → Lx offI (p ++ nmsP r) (x ++ nmsX r)
 | [], p, x, _, h => by
  have e1 : nmsP [] = [] := rfl
  have e2 : nmsX [] = [] := rfl
  rw [e1, e2, List.append_nil, List.append_nil]
  exact h
 | v :: r, p, x, hv, h => by
  have hs : Lx anyI [opP tComma] tComma := Lx.op1 (by decide) (by decide) (by decide) (by decide) (by decide)
  have h1 : Lx offI (p ++ ([opP tComma] ++ [nameP v.op])) (x ++ (tComma ++ (32 :: v.op.toList))) := Lx.seq h (Lx.gap hs (Lx.name (hv v List.mem_cons_self)) rfl) ⟨44, _, rfl, rfl⟩
  have h2 := nms_lex r (fun y hy => hv y (List.mem_cons_of_mem _ hy)) h1
  have e1 : p ++ nmsP (v :: r) = p ++ ([opP tComma] ++ [nameP v.op]) ++ nmsP r := by
   have : nmsP (v :: r) = [opP tComma, nameP v.op] ++ nmsP r := rfl
   rw [this]; simp
  have e2 : x ++ nmsX (v :: r) = x ++ (tComma ++ (32 :: v.op.toList)) ++ nmsX r := by
   have : nmsX (v :: r) = tComma ++ (32 :: v.op.toList) ++ nmsX r := rfl
   rw [this]; simp
  rw [e1, e2]
  exact h2
theorem EqP.lex {q : Ex} {k : Nat} {p : List Pc} {x : List UInt8} (h : EqP q k p x) : Lx offI p x := by
 have hm : Lx offI [opP tSemi] tSemi := (Lx.op1 (by decide) (by decide) (by decide) (by decide) (by decide)).mono fun _ _ => rfl
 have hO : Lx anyI [opP tOpen] tOpen := Lx.op1 (by decide) (by decide) (by decide) (by decide) (by decide)
 have hS : Lx anyI [opP tShut] tShut := Lx.op1 (by decide) (by decide) (by decide) (by decide) (by decide)
 have hE : Lx gapI [opP tEq] tEq := Lx.opG (by decide)
 cases h with
 | chk y ns e k p x hy _ hp => exact Lx.gap (p := [wordP y]) (Lx.word (by revert y; decide)) (Lx.seq hp.lex hm ⟨59, _, rfl, rfl⟩) rfl
 | one v e k p x hv hp => exact Lx.gap (p := [nameP v.op]) (Lx.name hv) (Lx.gap (p := [opP tEq]) hE (Lx.seq hp.lex hm ⟨59, _, rfl, rfl⟩) rfl) rfl
 | many v u r e k p x z hv hz hp =>
  have h1 : Lx offI ([opP tEq] ++ (p ++ [opP tSemi])) (tEq ++ (32 :: (x ++ tSemi))) := Lx.gap hE (Lx.seq hp.lex hm ⟨59, _, rfl, rfl⟩) rfl
  have h2 : Lx offI ([opP tShut] ++ ([opP tEq] ++ (p ++ [opP tSemi]))) (tShut ++ (32 :: (tEq ++ (32 :: (x ++ tSemi))))) := Lx.gap hS h1 rfl
  have h3 := Lx.seq hz h2 ⟨41, _, rfl, rfl⟩
  have hz0 : ∃ c s, z ++ (tShut ++ (32 :: (tEq ++ (32 :: (x ++ tSemi))))) = c :: s := by
   rcases z with _ | ⟨c, s⟩
   ·exact ⟨41, _, rfl⟩
   ·exact ⟨c, _, rfl⟩
  obtain ⟨c, s, hc⟩ := hz0
  exact Lx.seq (p := [opP tOpen]) hO h3 ⟨c, s, hc, rfl⟩
structure EqOk (q : Ex) : Prop where
 nmt : ∀ kind ns e, q = .mk kind 0 b0 [lst ns, e] → NmT e
 set : ∀ kind ns e, q = .mk kind 0 b0 [lst ns, e] → kind.toList = [115, 101, 116] → ns ≠ [] ∧ ∀ n ∈ ns, NmOk n.op
 chk : ∀ kind ns e, q = .mk kind 0 b0 [lst ns, e] → kind.toList ≠ [115, 101, 116] → ns = []
def qsP (qp : List Part) : List Pc := qp.flatMap fun x => x.2.2.1
def qsX (qp : List Part) : List UInt8 := qp.flatMap fun x => [32, 32] ++ (x.2.2.2 ++ [10])
theorem qsP_cons (x : Part) (r : List Part) : qsP (x :: r) = x.2.2.1 ++ qsP r := rfl
theorem EqP.first {q : Ex} {k : Nat} {p : List Pc} {x : List UInt8} (h : EqP q k p x) : ∃ t r, p = t :: r ∧ t.2.toList ≠ tTel := by
 cases h with
 | chk y ns e k p x hy _ _ =>
  refine ⟨_, _, rfl, ?_⟩
  show (sOf y).toList ≠ tTel
  rw [sOf_list]
  simp only [List.mem_cons, List.not_mem_nil, or_false] at hy
  rcases hy with rfl | rfl <;> decide
 | one v e k p x hv _ => exact ⟨_, _, rfl, hv.ne (by decide)⟩
 | many => exact ⟨_, _, rfl, by show (sOf tOpen).toList ≠ tTel; rw [sOf_list]; decide⟩
section
variable {l : List Tk}
theorem eqs_parse : ∀ (qp : List Part) (acc : List Ex) (i : Nat), (∀ x ∈ qp, EqP x.1 x.2.1 x.2.2.1 x.2.2.2) → AtP l i (qsP qp) → tx l (i + (qsP qp).length) tTel = true →
  (maxD qp ≤ 20 → Parse l (.eqs acc) i 0 (.ok (acc ++ qp.map fun x => canQ x.1) (i + (qsP qp).length))) ∧ (20 < maxD qp → ∃ j, Parse l (.eqs acc) i 0 (.bad j true))
 | [], acc, i, _, _, hs => by
  refine ⟨fun _ => ?_, fun h => by simp [maxD] at h⟩
  rw [List.map_nil, List.append_nil]
  exact Run.ifT hs Run.done
 | x :: r, acc, i, hq, ha, hs => by
  rw [qsP_cons] at ha hs ⊢
  obtain ⟨a1, a2⟩ := ha.split
  have hx := hq x List.mem_cons_self
  obtain ⟨t, z, hp, hne⟩ := hx.first
  have c0 : tx l i tTel = false := by
   rw [hp] at a1
   rw [tx, a1.1.2]
   exact beq_eq_false_iff_ne.2 hne
  obtain ⟨g1, g2⟩ := hx.goes l i a1
  have e : i + (x.2.2.1 ++ qsP r).length = i + x.2.2.1.length + (qsP r).length := by rw [List.length_append]; omega
  rw [e] at hs ⊢
  obtain ⟨f1, f2⟩ := eqs_parse r (acc ++ [canQ x.1]) (i + x.2.2.1.length) (fun y hy => hq y (List.mem_cons_of_mem _ hy)) a2 hs
  have hm : maxD (x :: r) = max x.2.1 (maxD r) := rfl
  rw [hm]
  refine ⟨fun hk => ?_, fun hk => ?_⟩
  ·have h2 := f1 (by omega)
   rw [List.append_assoc] at h2
   exact Run.ifF c0 (Run.then (g1 (by omega)) (Run.tail h2))
  ·by_cases hx1 : 20 < x.2.1
   ·obtain ⟨j, hj⟩ := g2 hx1
    exact ⟨j, Run.ifF c0 (Run.stop hj)⟩
   ·obtain ⟨j, hj⟩ := f2 (by omega)
    exact ⟨j, Run.ifF c0 (Run.then (g1 (by omega)) (Run.tail hj))⟩
end
structure NP where
 name : ByteArray
 ins : List Ex
 outs : List Ex
 owns : List Ex
 qp : List Part
structure NP.Fine (n : NP) : Prop where
 nm : NmOk n.name
 ins : ∀ v ∈ n.ins, VarOk v
 some : n.outs ≠ []
 outs : ∀ v ∈ n.outs, VarOk v
 owns : ∀ v ∈ n.owns, VarOk v
 qs : ∀ x ∈ n.qp, EqP x.1 x.2.1 x.2.2.1 x.2.2.2
def NP.ex (n : NP) : Ex := .mk n.name 0 b0 [lst n.ins, lst n.outs, lst n.owns, lst (n.qp.map (·.1))]
def NP.can (n : NP) : Ex := .mk n.name 0 b0 [lst (n.ins.map canV), lst (n.outs.map canV), lst (n.owns.map canV), lst (n.qp.map fun x => canQ x.1)]
def ownP (owns : List Ex) (r : List Pc) : List Pc := if owns = [] then r else wordP tVar :: (varsP owns ++ opP tSemi :: r)
def NP.end' (n : NP) : List Pc := wordP tLet :: (qsP n.qp ++ [wordP tTel])
def NP.mid (n : NP) : List Pc := opP tShut :: wordP tReturns :: opP tOpen :: (varsP n.outs ++ opP tShut :: opP tSemi :: ownP n.owns n.end')
def NP.tok (n : NP) : List Pc := wordP tNode :: nameP n.name :: opP tOpen :: (varsP n.ins ++ n.mid)
section
variable {l : List Tk}
theorem end_node {n : NP} (hn : n.Fine) {i : Nat} (ha : AtP l i n.end') (name : ByteArray) (ins outs owns : List Ex) :
  (maxD n.qp ≤ 20 → Run l (expA l i tLet fun i => .call (.eqs []) i 0 fun qs i => expA l i tTel fun i => retA [.mk name 0 b0 [lst ins, lst outs, lst owns, lst qs]] i) (.ok [.mk name 0 b0 [lst ins, lst outs, lst owns, lst (n.qp.map fun x => canQ x.1)]] (i + n.end'.length))) ∧
  (20 < maxD n.qp → ∃ j, Run l (expA l i tLet fun i => .call (.eqs []) i 0 fun qs i => expA l i tTel fun i => retA [.mk name 0 b0 [lst ins, lst outs, lst owns, lst qs]] i) (.bad j true)) := by
 obtain ⟨⟨_, x0⟩, a1⟩ := ha
 obtain ⟨a2, ⟨_, x1⟩, _⟩ := a1.split
 have t0 : tkx l i = sOf tLet := x0
 have t1 : tkx l (i + 1 + (qsP n.qp).length) = sOf tTel := x1
 have c1 : tx l (i + 1 + (qsP n.qp).length) tTel = true := by rw [tx_of t1]; decide
 have c0 : tx l i tLet = true := by rw [tx_of t0]; decide
 obtain ⟨g1, g2⟩ := eqs_parse n.qp [] (i + 1) hn.qs a2 c1
 have el : i + n.end'.length = i + 1 + (qsP n.qp).length + 1 := by
  show i + (wordP tLet :: (qsP n.qp ++ [wordP tTel])).length = _
  simp; omega
 rw [el]
 refine ⟨fun hk => ?_, fun hk => ?_⟩
 ·have h1 := g1 hk
  rw [List.nil_append] at h1
  exact Run.exp c0 (Run.then h1 (Run.exp c1 Run.done))
 ·obtain ⟨j, hj⟩ := g2 hk
  exact ⟨j, Run.exp c0 (Run.stop hj)⟩
theorem body_goes {n : NP} (hn : n.Fine) {i : Nat} (ha : AtP l i n.mid) (ins : List Ex) :
  (maxD n.qp ≤ 20 → Run l (bodyA l n.name ins i 0) (.ok [.mk n.name 0 b0 [lst ins, lst (n.outs.map canV), lst (n.owns.map canV), lst (n.qp.map fun x => canQ x.1)]] (i + n.mid.length))) ∧ (20 < maxD n.qp → ∃ j, Run l (bodyA l n.name ins i 0) (.bad j true)) := by
 obtain ⟨⟨_, x0⟩, ⟨_, x1⟩, ⟨_, x2⟩, a1⟩ := ha
 have t0 : tkx l i = sOf tShut := x0
 have t1 : tkx l (i + 1) = sOf tReturns := x1
 have t2 : tkx l (i + 1 + 1) = sOf tOpen := x2
 obtain ⟨a2, ⟨_, x3⟩, ⟨_, x4⟩, a3⟩ := a1.split
 have t3 : tkx l (i + 1 + 1 + 1 + (varsP n.outs).length) = sOf tShut := x3
 have t4 : tkx l (i + 1 + 1 + 1 + (varsP n.outs).length + 1) = sOf tSemi := x4
 have hso := hn.some
 have hov := hn.outs
 -- the rest, behind the outputs
 have rest : ∀ (J : Nat), J = i + 1 + 1 + 1 + (varsP n.outs).length + 1 + 1 → ((maxD n.qp ≤ 20 → Run l (if tx l J tVar then .call (.owns []) (J + 1) 0 (fun owns i => expA l i tLet fun i => .call (.eqs []) i 0 fun qs i => expA l i tTel fun i => retA [.mk n.name 0 b0 [lst ins, lst (n.outs.map canV), lst owns, lst qs]] i) else expA l J tLet fun i => .call (.eqs []) i 0 fun qs i => expA l i tTel fun i => retA [.mk n.name 0 b0 [lst ins, lst (n.outs.map canV), lst [], lst qs]] i) (.ok [.mk n.name 0 b0 [lst ins, lst (n.outs.map canV), lst (n.owns.map canV), lst (n.qp.map fun x => canQ x.1)]] (J + (ownP n.owns n.end').length))) ∧
   (20 < maxD n.qp → ∃ j, Run l (if tx l J tVar then .call (.owns []) (J + 1) 0 (fun owns i => expA l i tLet fun i => .call (.eqs []) i 0 fun qs i => expA l i tTel fun i => retA [.mk n.name 0 b0 [lst ins, lst (n.outs.map canV), lst owns, lst qs]] i) else expA l J tLet fun i => .call (.eqs []) i 0 fun qs i => expA l i tTel fun i => retA [.mk n.name 0 b0 [lst ins, lst (n.outs.map canV), lst [], lst qs]] i) (.bad j true))) := by
  intro J hJ
  rw [← hJ] at a3
  by_cases ho : n.owns = []
  ·have eo : ownP n.owns n.end' = n.end' := if_pos ho
   rw [eo] at a3 ⊢
   have c0 : tx l J tVar = false := by
    have : tkx l J = sOf tLet := a3.1.2
    rw [tx_of this]; decide
   obtain ⟨g1, g2⟩ := end_node hn a3 n.name ins (n.outs.map canV) []
   rw [ho]
   exact ⟨fun hk => Run.ifF c0 (g1 hk), fun hk => (g2 hk).imp fun _ hj => Run.ifF c0 hj⟩
  ·have eo : ownP n.owns n.end' = wordP tVar :: (varsP n.owns ++ opP tSemi :: n.end') := if_neg ho
   rw [eo] at a3 ⊢
   obtain ⟨⟨_, y0⟩, a4⟩ := a3
   have s0 : tkx l J = sOf tVar := y0
   have c0 : tx l J tVar = true := by rw [tx_of s0]; decide
   have e4 : varsP n.owns ++ opP tSemi :: n.end' = (varsP n.owns ++ [opP tSemi]) ++ n.end' := by simp
   rw [e4] at a4
   obtain ⟨a5, a6⟩ := a4.split
   have el5 : J + 1 + (varsP n.owns ++ [opP tSemi]).length = J + 1 + (varsP n.owns).length + 1 := by simp; omega
   rw [el5] at a6
   have cN : isName l (J + 1 + (varsP n.owns).length + 1) = false := (kWord_no a6.1.1).2
   obtain ⟨v, r, hvr⟩ := List.exists_cons_of_ne_nil ho
   have hown := hn.owns
   rw [hvr] at hown a5 cN
   have h1 := owns_parse (d := 0) r v [] (J + 1) hown a5 cN
   rw [List.nil_append, ← hvr] at h1
   obtain ⟨g1, g2⟩ := end_node hn a6 n.name ins (n.outs.map canV) (n.owns.map canV)
   have el : J + (wordP tVar :: (varsP n.owns ++ opP tSemi :: n.end')).length = J + 1 + (varsP n.owns).length + 1 + n.end'.length := by simp; omega
   rw [el]
   exact ⟨fun hk => Run.ifT c0 (Run.then h1 (g1 hk)), fun hk => (g2 hk).imp fun _ hj => Run.ifT c0 (Run.then h1 hj)⟩
 obtain ⟨r1, r2⟩ := rest _ rfl
 obtain ⟨v, r, hvr⟩ := List.exists_cons_of_ne_nil hso
 have el : i + n.mid.length = i + 1 + 1 + 1 + (varsP n.outs).length + 1 + 1 + (ownP n.owns n.end').length := by
  show i + (opP tShut :: wordP tReturns :: opP tOpen :: (varsP n.outs ++ opP tShut :: opP tSemi :: ownP n.owns n.end')).length = _
  simp; omega
 rw [el]
 have into : ∀ {res : Res}, Run l (if tx l (i + 1 + 1 + 1 + (varsP n.outs).length + 1 + 1) tVar then .call (.owns []) (i + 1 + 1 + 1 + (varsP n.outs).length + 1 + 1 + 1) 0 (fun owns i => expA l i tLet fun i => .call (.eqs []) i 0 fun qs i => expA l i tTel fun i => retA [.mk n.name 0 b0 [lst ins, lst (n.outs.map canV), lst owns, lst qs]] i) else expA l (i + 1 + 1 + 1 + (varsP n.outs).length + 1 + 1) tLet fun i => .call (.eqs []) i 0 fun qs i => expA l i tTel fun i => retA [.mk n.name 0 b0 [lst ins, lst (n.outs.map canV), lst [], lst qs]] i) res → Run l (bodyA l n.name ins i 0) res := fun {res} hr => by
  unfold bodyA
  refine Run.exp (by rw [tx_of t0]; decide) ?_
  refine Run.exp (by rw [tx_of t1]; decide) ?_
  refine Run.exp (by rw [tx_of t2]; decide) ?_
  rw [hvr] at hov a2 t3 t4 hr
  refine vars_parse hov a2 (by rw [tx_of t3]; decide) ?_
  refine Run.exp (by rw [tx_of t3]; decide) ?_
  refine Run.exp (by rw [tx_of t4]; decide) ?_
  exact hr
 exact ⟨fun hk => into (r1 hk), fun hk => (r2 hk).imp fun _ hj => into hj⟩
theorem node_goes {n : NP} (hn : n.Fine) {i : Nat} (ha : AtP l i n.tok) : (maxD n.qp ≤ 20 → Parse l .node i 0 (.ok [n.can] (i + n.tok.length))) ∧ (20 < maxD n.qp → ∃ j, Parse l .node i 0 (.bad j true)) := by
 obtain ⟨⟨_, x0⟩, ⟨k1, x1⟩, ⟨_, x2⟩, a1⟩ := ha
 have t0 : tkx l i = sOf tNode := x0
 have t1 : tkx l (i + 1) = n.name := x1
 have t2 : tkx l (i + 1 + 1) = sOf tOpen := x2
 obtain ⟨a2, a3⟩ := a1.split
 have t3 : tkx l (i + 1 + 1 + 1 + (varsP n.ins).length) = sOf tShut := a3.1.2
 obtain ⟨g1, g2⟩ := body_goes hn a3 (n.ins.map canV)
 have el : i + n.tok.length = i + 1 + 1 + 1 + (varsP n.ins).length + n.mid.length := by
  show i + (wordP tNode :: nameP n.name :: opP tOpen :: (varsP n.ins ++ n.mid)).length = _
  simp; omega
 rw [el]
 have into : ∀ {res : Res}, Run l (bodyA l n.name (n.ins.map canV) (i + 1 + 1 + 1 + (varsP n.ins).length) 0) res → Parse l .node i 0 res := fun {res} hr => by
  show Run l (expA l i tNode fun i => nameA l i fun j => expA l j tOpen fun k => if tx l k tShut then bodyA l (tkx l i) [] k 0 else .call .one k 0 fun v j => .call (.vars v) j 0 fun ins j => bodyA l (tkx l i) ins j 0) res
  refine Run.exp (by rw [tx_of t0]; decide) ?_
  refine Run.nam (kName_yes k1).2 ?_
  refine Run.exp (by rw [tx_of t2]; decide) ?_
  rw [t1]
  by_cases hi : n.ins = []
  ·rw [hi] at hr t3
   exact Run.ifT (by rw [tx_of (show tkx l (i + 1 + 1 + 1) = sOf tShut from t3)]; decide) hr
  ·obtain ⟨v, r, hvr⟩ := List.exists_cons_of_ne_nil hi
   have hiv := hn.ins
   rw [hvr] at hiv a2 t3 hr
   have c0 : tx l (i + 1 + 1 + 1) tShut = false := by
    have : tkx l (i + 1 + 1 + 1) = v.op := a2.1.2
    rw [tx, this]
    exact beq_eq_false_iff_ne.2 (first_ne (hiv v List.mem_cons_self).nm.pos fun c hc => by
     cases hc
     have := (hiv v List.mem_cons_self).nm.low
     simp only [lowI, Bool.and_eq_true, decide_eq_true_eq] at this
     show (41 : Int) ≠ _
     omega)
   refine Run.ifF c0 ?_
   exact vars_parse hiv a2 (by rw [tx_of t3]; decide) hr
 exact ⟨fun hk => into (g1 hk), fun hk => (g2 hk).imp fun _ hj => into hj⟩
def toksN (ns : List NP) : List Pc := ns.flatMap NP.tok
theorem nodes_goes : ∀ (ns : List NP) (acc : List Ex) (i : Nat), (∀ n ∈ ns, n.Fine) → AtP l i (toksN ns) → isEnd l (i + (toksN ns).length) = true → acc.length ≤ 12 →
  (acc.length + ns.length ≤ 12 ∧ (∀ n ∈ ns, maxD n.qp ≤ 20) → Parse l (.nodes acc) i 0 (.ok (acc ++ ns.map NP.can) (i + (toksN ns).length))) ∧ (¬ (acc.length + ns.length ≤ 12 ∧ (∀ n ∈ ns, maxD n.qp ≤ 20)) → ∃ j, Parse l (.nodes acc) i 0 (.bad j true))
 | [], acc, i, _, _, he, hl => by
  refine ⟨fun _ => ?_, fun h => absurd ⟨by simpa using hl, fun n hn => by cases hn⟩ h⟩
  rw [List.map_nil, List.append_nil]
  exact Run.ifT he Run.done
 | n :: r, acc, i, hn, ha, he, hl => by
  have et : toksN (n :: r) = n.tok ++ toksN r := rfl
  rw [et] at ha he ⊢
  obtain ⟨a1, a2⟩ := ha.split
  have e : i + (n.tok ++ toksN r).length = i + n.tok.length + (toksN r).length := by rw [List.length_append]; omega
  rw [e] at he ⊢
  have k0 : tkk l i = kWord := a1.1.1
  have t0 : tkx l i = sOf tNode := a1.1.2
  have c0 : isEnd l i = false := by unfold isEnd; rw [k0, ByteArray.toList_eq]; rfl
  obtain ⟨g1, g2⟩ := node_goes (hn n List.mem_cons_self) a1
  by_cases h12 : acc.length = 12
  ·refine ⟨fun h => ?_, fun _ => ?_⟩
   ·have := h.1
    rw [List.length_cons] at this
    omega
   ·exact ⟨i, Run.ifF c0 (Run.ifT (by rw [tx_of t0, h12]; rfl) (.ret _))⟩
  ·have c1 : (tx l i tNode && (acc.length == 12)) = false := by rw [Bool.and_eq_false_iff]; right; simpa using h12
   obtain ⟨f1, f2⟩ := nodes_goes r (acc ++ [n.can]) (i + n.tok.length) (fun x hx => hn x (List.mem_cons_of_mem _ hx)) a2 he (by rw [List.length_append]; simp; omega)
   have el : (acc ++ [n.can]).length = acc.length + 1 := by simp
   rw [el] at f1 f2
   refine ⟨fun h => ?_, fun h => ?_⟩
   ·have h2 := f1 ⟨by have := h.1; rw [List.length_cons] at this; omega, fun x hx => h.2 x (List.mem_cons_of_mem _ hx)⟩
    rw [List.append_assoc] at h2
    exact Run.ifF c0 (Run.ifF c1 (Run.then (g1 (h.2 n List.mem_cons_self)) (Run.tail h2)))
   ·by_cases hd : 20 < maxD n.qp
    ·obtain ⟨j, hj⟩ := g2 hd
     exact ⟨j, Run.ifF c0 (Run.ifF c1 (Run.stop hj))⟩
    ·obtain ⟨j, hj⟩ := f2 fun h' => h ⟨by rw [List.length_cons]; omega, fun x hx => (List.mem_cons.1 hx).elim (fun e => by rw [e]; omega) (h'.2 x)⟩
     exact ⟨j, Run.ifF c0 (Run.ifF c1 (Run.then (g1 (by omega)) (Run.tail hj)))⟩
end
end Go.Proofs.YtgbpccipdcajgaaGreatDoor
