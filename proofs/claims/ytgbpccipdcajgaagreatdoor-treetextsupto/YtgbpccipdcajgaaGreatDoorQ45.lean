/-
  lustrumlaw1.TreeTexts, WALKED.
-/
import Derived.Test.YtgbpccipdcajgaaGreatDoorQ44
import Derived.Test.YtgbpccipdcajgaaGreatDoorQ33
import Derived.Test.YtgbpccipdcajgaaGreatDoorQ30
import Derived.Test.YtgbpccipdcajgaaGreatDoorQ43
import Derived.Test.YtgbpccipdcajgaaGreatDoorQ07
namespace Go.Proofs.YtgbpccipdcajgaaGreatDoor
open Go.RowKit
attribute [local go_sem ↓] Go.wp_at_zero Go.wp_at_succ
theorem right_one {es : List Ex} {z z' : List UInt8} (h : RightP es z) (h' : RightP es z') : z = z' := Option.some.inj (h.txt.symm.trans h'.txt)
set_option maxRecDepth 100000 in
set_option maxHeartbeats 4000000 in
theorem nodeTexts_walk (a : Nat → Addr) (ev : Value) (es : List Ex) (S : Nat → Prop) (o : Option Addr) (c : Nat) (ys : List Value) (w : World) (E : Env (a 0) (a 1) (a 2) ev w) (hSn : Sents a w) (h1 : RowAt w S 5 (.slice o es.length c) es.length ys) (h2 : NdIn w S es ys) (hlen : es.length ≤ 1256584717458) (hf : FitN es) (hbk : BulkN es) :
  Calls Tryz.prog 5 #[.slice o es.length c] w fun e w' => e = .returned (.bool true) ∧ Below w.heap.size w w' := by
 have HE : Hid (Env (a 0) (a 1) (a 2) ev w) := E
 have HSN : Hid (Sents a w) := hSn
 have HP : Hid (∀ w', Below w.heap.size w w' → Calls Tryz.prog 12 #[] w' fun e w'' => e = .returned (.bool true) ∧ Below w'.heap.size w' w'') := fun w' hb => pass_doc w' (a 0) (a 1) (a 2) ev (E.below hb)
 have HW : Hid (∀ w', Below w.heap.size w w' → Calls Tryz.prog 18 #[.slice o es.length c] w' (Numbers w')) := fun w' hb => weight_any w' S o c es ys (h1.keep (Stays.below hb (fun k hk => hk))) (h2.keep (Stays.below hb (fun k hk => hk)))
 have HN : Hid (∀ w', Below w.heap.size w w' → Calls Tryz.prog 20 #[.slice o es.length c] w' fun e w'' => (∃ so sc ys', e = .returned (.slice so es.length sc) ∧ RowAt w'' (fun _ => True) 5 (.slice so es.length sc) es.length ys' ∧ NdIn w'' (fun _ => True) es ys') ∧ Below w'.heap.size w' w'') := fun w' hb => nodesOf_any w' S o c es ys (h1.keep (Stays.below hb (fun k hk => hk))) (h2.keep (Stays.below hb (fun k hk => hk))) hlen hf
 have HR : Hid (∀ w', Below w.heap.size w w' → Calls Tryz.prog 21 #[.slice o es.length c] w' fun e w'' => Below w'.heap.size w' w'' ∧ ((∃ t : ByteArray, e = .returned (.tuple #[.string t, .bool true]) ∧ RightP es t.toList) ∨ (e = .returned (.tuple #[.string ⟨#[]⟩, .bool false]) ∧ NoRight es))) := fun w' hb => refText_any es S o c ys w' (h1.keep (Stays.below hb (fun k hk => hk))) (h2.keep (Stays.below hb (fun k hk => hk))) hbk
 clear E hSn h1 h2 hf hlen hbk
 go_enter Tryz.func5, Tryz.ntmps5
 go_wp2_with fail
 refine (HP.out w (Below.refl _ _)).mono ?_
 rintro e w1 ⟨rfl, hb1⟩
 go_wp2_with fail
 refine (HW.out w1 hb1).mono ?_
 rintro e w2 ⟨⟨kw, rfl⟩, hb2'⟩
 have hb2 := hb1.trans (hb2'.mono hb1.size)
 by_cases hkw : 1500 < kw
 ·go_wp2
  go_ret
  exact ⟨rfl, hb2⟩
 ·go_wp2_with fail
  refine (HN.out w2 hb2).mono ?_
  rintro e w3 ⟨⟨so, sc, zs, rfl, hr3, hn3⟩, hb3'⟩
  have hb3 := hb2.trans (hb3'.mono hb2.size)
  have E3 := HE.out.below hb3
  have HT3 : Hid (Calls Tryz.prog 19 #[.slice so es.length sc] w3 fun e w' => Below w3.heap.size w3 w' ∧ ((∃ t : ByteArray, e = .returned (.tuple #[.string t, .nilIface]) ∧ RightP es t.toList) ∨ (e = .returned (.tuple #[.string ⟨#[]⟩, .iface 235 (.pointer (some (a 2)))]) ∧ NoRight es))) := wtext_doc es (fun _ => True) so sc zs w3 hr3 hn3 (a 0) (a 1) (a 2) ev E3.hS E3.hT E3.hB E3.hv E3.hev E3.tab E3.hgz
  clear hr3 hn3 E3 HP HW HN
  go_wp2_with fail
  refine HT3.out.mono ?_
  rintro e w4 ⟨hb4', h4⟩
  have hb4 := hb3.trans (hb4'.mono hb3.size)
  rcases h4 with ⟨t, rfl, hr⟩ | ⟨rfl, hn⟩
  ·have HRT : Hid (RightP es t.toList) := hr
   clear hr
   go_wp2_with fail
   refine (HR.out w4 hb4).mono ?_
   rintro e w5 ⟨hb5', h5⟩
   have hb5 := hb4.trans (hb5'.mono hb4.size)
   rcases h5 with ⟨t', rfl, hr'⟩ | ⟨_, hn'⟩
   ·obtain rfl : t = t' := by
     have := right_one HRT.out hr'
     rw [← sOf_bytes t, this, sOf_bytes]
    clear hr'
    go_wp2
    go_ret
    exact ⟨rfl, hb5⟩
   ·exact absurd HRT.out (hn' _)
  ·have HNR : Hid (NoRight es) := hn
   clear hn
   go_wp2_with fail
   refine (HR.out w4 hb4).mono ?_
   rintro e w5 ⟨hb5', h5⟩
   have hb5 := hb4.trans (hb5'.mono hb4.size)
   rcases h5 with ⟨t', _, hr'⟩ | ⟨rfl, _⟩
   ·exact absurd hr' (HNR.out _)
   ·have S5 := HSN.out.below hb5
    obtain ⟨cb, tb, hrow⟩ := S5.row 2 (by omega)
    go_wp2_with fail
    refine (coded_str a (a 2) 2 3 cb tb _ S5 hrow (by omega) (fun j hj => S5.inj 2 j (by omega) (by omega) (by omega)) (fun _ => rfl) (by rw [codeOf_in (by omega)]; rfl)).mono ?_
    rintro e w6 ⟨rfl, hb6'⟩
    have hb6 := hb5.trans (hb6'.mono hb5.size)
    clear S5 hrow
    go_wp2
    go_ret
    exact ⟨rfl, hb6⟩
end Go.Proofs.YtgbpccipdcajgaaGreatDoor
