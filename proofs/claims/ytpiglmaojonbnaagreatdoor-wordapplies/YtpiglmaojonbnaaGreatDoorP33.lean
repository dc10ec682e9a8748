/-
  package word: Of, of any operator and any words BY CONTRACT.
-/
import Derived.Test.YtpiglmaojonbnaaGreatDoorP30
import Derived.Test.YtpiglmaojonbnaaGreatDoorP31
import Derived.Test.YtpiglmaojonbnaaGreatDoorP32
import Derived.Test.YtpiglmaojonbnaaGreatDoorP26
namespace Go.Proofs.YtpiglmaojonbnaaGreatDoor
open Go.RowKit Go.Maps

/-- Operators of a flow's past: of values alone they make nothing. -/
def noB (op : List UInt8) : Bool := decide (op = [102, 98, 121]) || decide (op = [45, 62]) || decide (op = [112, 114, 101])
/-- What an operator makes of words: how many bits, of which values, and when it traps. -/
def SemR (gs : List (Int × Int)) (op : List UInt8) (ls : List (List Int)) (len : Nat) (Pr : (List Bool → Nat → Bool) → Prop) (tf : List Bool → Bool) : Prop :=
  (∃ n t a b, op = [105, 102] ∧ ls = [t, a, b] ∧ t.length = 1 ∧ a.length = n ∧ b.length = n ∧ (n = 1 ∨ n = 8) ∧ len = n ∧ Pr = (fun g => g = fun inp i => if bitsL gs inp t 0 = true then bitsL gs inp a i else bitsL gs inp b i) ∧ tf = (fun _ => false)) ∨
  (∃ n a b, op = [60, 62] ∧ ls = [a, b] ∧ a.length = n ∧ b.length = n ∧ (n = 1 ∨ n = 8) ∧ len = 1 ∧ Pr = (fun g => g = fun inp _ => orF (fun i => bitsL gs inp a i ^^ bitsL gs inp b i) n) ∧ tf = (fun _ => false)) ∨
  (∃ n a b, op = [61] ∧ ls = [a, b] ∧ a.length = n ∧ b.length = n ∧ (n = 1 ∨ n = 8) ∧ len = 1 ∧ Pr = (fun g => g = fun inp _ => !orF (fun i => bitsL gs inp a i ^^ bitsL gs inp b i) n) ∧ tf = (fun _ => false)) ∨
  (∃ a b, op = [62, 61] ∧ ls = [a, b] ∧ a.length = 8 ∧ b.length = 8 ∧ len = 1 ∧ Pr = (fun g => g = fun inp _ => !lessB (bitsL gs inp a) (bitsL gs inp b)) ∧ tf = (fun _ => false)) ∨
  (∃ a b, op = [62] ∧ ls = [a, b] ∧ a.length = 8 ∧ b.length = 8 ∧ len = 1 ∧ Pr = (fun g => g = fun inp _ => lessB (bitsL gs inp b) (bitsL gs inp a)) ∧ tf = (fun _ => false)) ∨
  (∃ a b, op = [60, 61] ∧ ls = [a, b] ∧ a.length = 8 ∧ b.length = 8 ∧ len = 1 ∧ Pr = (fun g => g = fun inp _ => !lessB (bitsL gs inp b) (bitsL gs inp a)) ∧ tf = (fun _ => false)) ∨
  (∃ a b, op = [60] ∧ ls = [a, b] ∧ a.length = 8 ∧ b.length = 8 ∧ len = 1 ∧ Pr = (fun g => g = fun inp _ => lessB (bitsL gs inp a) (bitsL gs inp b)) ∧ tf = (fun _ => false)) ∨
  (∃ a b, op = [109, 111, 100] ∧ ls = [a, b] ∧ a.length = 8 ∧ b.length = 8 ∧ len = 8 ∧ Pr = (fun g => ∃ q : List Bool → Nat → Bool, (∀ inp, natF (absB gs inp b) 8 ≠ 0 → natF (q inp) 8 = natF (absB gs inp a) 8 % natF (absB gs inp b) 8) ∧ g = fun inp => opB (bitsL gs inp a 7) (q inp)) ∧ tf = (fun inp => !orF (bitsL gs inp b) 8)) ∨
  (∃ a b, op = [47] ∧ ls = [a, b] ∧ a.length = 8 ∧ b.length = 8 ∧ len = 8 ∧ Pr = (fun g => ∃ q : List Bool → Nat → Bool, (∀ inp, natF (absB gs inp b) 8 ≠ 0 → natF (q inp) 8 = natF (absB gs inp a) 8 / natF (absB gs inp b) 8) ∧ g = fun inp => opB (bitsL gs inp a 7 ^^ bitsL gs inp b 7) (q inp)) ∧ tf = (fun inp => !orF (bitsL gs inp b) 8)) ∨
  (∃ a b, op = [42] ∧ ls = [a, b] ∧ a.length = 8 ∧ b.length = 8 ∧ len = 8 ∧ Pr = (fun g => g = fun inp => prodB (bitsL gs inp a) (bitsL gs inp b) 8) ∧ tf = (fun _ => false)) ∨
  (∃ a b, op = [45] ∧ ls = [a, b] ∧ a.length = 8 ∧ b.length = 8 ∧ len = 8 ∧ Pr = (fun g => g = fun inp => smB (bitsL gs inp a) (fun i => !bitsL gs inp b i) true) ∧ tf = (fun _ => false)) ∨
  (∃ a b, op = [43] ∧ ls = [a, b] ∧ a.length = 8 ∧ b.length = 8 ∧ len = 8 ∧ Pr = (fun g => g = fun inp => smB (bitsL gs inp a) (bitsL gs inp b) false) ∧ tf = (fun _ => false)) ∨
  (∃ a, op = [110, 101, 103] ∧ ls = [a] ∧ a.length = 8 ∧ len = 8 ∧ Pr = (fun g => g = fun inp => opB true (bitsL gs inp a)) ∧ tf = (fun _ => false)) ∨
  (∃ a b, op = [61, 62] ∧ ls = [a, b] ∧ a.length = 1 ∧ b.length = 1 ∧ len = 1 ∧ Pr = (fun g => g = fun inp _ => !bitsL gs inp a 0 || bitsL gs inp b 0) ∧ tf = (fun _ => false)) ∨
  (∃ a b, op = [120, 111, 114] ∧ ls = [a, b] ∧ a.length = 1 ∧ b.length = 1 ∧ len = 1 ∧ Pr = (fun g => g = fun inp _ => bitsL gs inp a 0 ^^ bitsL gs inp b 0) ∧ tf = (fun _ => false)) ∨
  (∃ a b, op = [111, 114] ∧ ls = [a, b] ∧ a.length = 1 ∧ b.length = 1 ∧ len = 1 ∧ Pr = (fun g => g = fun inp _ => bitsL gs inp a 0 || bitsL gs inp b 0) ∧ tf = (fun _ => false)) ∨
  (∃ a b, op = [97, 110, 100] ∧ ls = [a, b] ∧ a.length = 1 ∧ b.length = 1 ∧ len = 1 ∧ Pr = (fun g => g = fun inp _ => bitsL gs inp a 0 && bitsL gs inp b 0) ∧ tf = (fun _ => false)) ∨
  (∃ a, op = [110, 111, 116] ∧ ls = [a] ∧ a.length = 1 ∧ len = 1 ∧ Pr = (fun g => g = fun inp _ => !bitsL gs inp a 0) ∧ tf = (fun _ => false))
theorem str_of {s : ByteArray} {l : List UInt8} (h : s.data.toList = l) : s = ⟨l.toArray⟩ := by
  cases s with
  | mk d => cases d with
    | mk m => simp at h; subst h; rfl
set_option maxRecDepth 100000 in
set_option maxHeartbeats 4000000 in
theorem ofop_any {G : Nat} {gs : List (Int × Int)} {ins : Nat} {F : Nat → Prop} {w : World} (h : GrAt G gs ins F w) (hl : gs.length + 1020 < 80000) (s : ByteArray) (hs : s.size ≤ maxLen) (o : Option Addr) (n c : Nat) (ls : List (List Int)) (hv : WordsAt F w (.slice o n c) ls) (hn : n = ls.length) (hH : ∀ l ∈ ls, ∀ x ∈ l, HasL gs x) (et st : TypeId) (eq sq : Value) (he : w.cell? ⟨0, 0, none⟩ = some (.iface et eq)) (hsh : w.cell? ⟨1, 0, none⟩ = some (.iface st sq)) (hgF : ¬ F 1) :
    Calls Tryz.prog 8 #[.pointer (some ⟨G, 0, none⟩), .string s, .slice o n c] w fun e w' =>
      (askB s.data.toList ls = true ∧ noB s.data.toList = false ∧ ∃ uv tv K len Pr tf, e = .returned (.tuple #[uv, tv, .nilIface]) ∧ OfP G gs ins K len Pr tf F w w' uv tv ∧ K ≤ 1020 ∧ SemR gs s.data.toList ls len Pr tf) ∨
      ((askB s.data.toList ls = false ∨ noB s.data.toList = true) ∧ e = .returned (.tuple #[.slice none 0 0, .int .i64 0, .iface st sq]) ∧ ∃ F', GrAt G gs ins F' w' ∧ Mvd F F' w w') := by
  cases hask : askB s.data.toList ls with
  | false =>
    refine (of_any h (by omega) s hs o n c ls hv hn hH et st eq sq he hsh 0 0 (fun _ => False) (fun _ => false) (fun hk => by rw [hask] at hk; cases hk)).mono ?_
    rintro e w' (⟨hk, _⟩ | ⟨_, rfl, hg, hm⟩)
    · rw [hask] at hk; cases hk
    · exact .inr ⟨.inl rfl, rfl, F, hg, hm⟩
  | true =>
    have done : ∀ K len Pr tf, noB s.data.toList = false → K ≤ 1020 → SemR gs s.data.toList ls len Pr tf → (∀ F1 w1, GrAt G gs ins F1 w1 → WordsAt F1 w1 (.slice o n c) ls → Calls Tryz.prog 21 #[.agg #[.pointer (some ⟨G, 0, none⟩)], .string s, .slice o n c] w1 (ValP G gs ins K len Pr tf F1 w1)) →
        Calls Tryz.prog 8 #[.pointer (some ⟨G, 0, none⟩), .string s, .slice o n c] w fun e w' =>
          (true = true ∧ noB s.data.toList = false ∧ ∃ uv tv K len Pr tf, e = .returned (.tuple #[uv, tv, .nilIface]) ∧ OfP G gs ins K len Pr tf F w w' uv tv ∧ K ≤ 1020 ∧ SemR gs s.data.toList ls len Pr tf) ∨
          ((true = false ∨ noB s.data.toList = true) ∧ e = .returned (.tuple #[.slice none 0 0, .int .i64 0, .iface st sq]) ∧ ∃ F', GrAt G gs ins F' w' ∧ Mvd F F' w w') := fun K len Pr tf hno hK hS hval => by
      refine (of_any h (by omega) s hs o n c ls hv hn hH et st eq sq he hsh K len Pr tf (fun _ => hval)).mono ?_
      rintro e w' (⟨_, uv, tv, rfl, hP⟩ | ⟨hk, _⟩)
      · exact .inl ⟨rfl, hno, uv, tv, K, len, Pr, tf, rfl, hP, hK, hS⟩
      · rw [hask] at hk; cases hk
    have thrown : noB s.data.toList = true → (∀ F1 w1, GrAt G gs ins F1 w1 → WordsAt F1 w1 (.slice o n c) ls → Calls Tryz.prog 21 #[.agg #[.pointer (some ⟨G, 0, none⟩)], .string s, .slice o n c] w1 (ThrP w1)) →
        Calls Tryz.prog 8 #[.pointer (some ⟨G, 0, none⟩), .string s, .slice o n c] w fun e w' =>
          (true = true ∧ noB s.data.toList = false ∧ ∃ uv tv K len Pr tf, e = .returned (.tuple #[uv, tv, .nilIface]) ∧ OfP G gs ins K len Pr tf F w w' uv tv ∧ K ≤ 1020 ∧ SemR gs s.data.toList ls len Pr tf) ∨
          ((true = false ∨ noB s.data.toList = true) ∧ e = .returned (.tuple #[.slice none 0 0, .int .i64 0, .iface st sq]) ∧ ∃ F', GrAt G gs ins F' w' ∧ Mvd F F' w w') := fun hno hval => by
      refine (of_throw h (by omega) s hs o n c ls hv hn hH et st eq sq he hsh hgF hask hval).mono ?_
      rintro e w' ⟨rfl, F', hg, hm⟩
      exact .inr ⟨.inr hno, rfl, F', hg, hm⟩
    obtain ⟨tk, gv, hr, hf, hne⟩ := ask_row hask
    clear hask hs he hsh hgF hv
    unfold signRow at hr
    by_cases e : s.data.toList = [105, 102]
    · rw [if_pos e] at hr
      obtain ⟨rfl, rfl⟩ : [1, 0, 0] = tk ∧ _ = gv := by simpa using hr
      clear hr
      obtain ⟨t, a, b, rfl, ht1, hab⟩ := fits_if hf
      obtain rfl : n = 3 := hn
      obtain ⟨m, hm, ha, hb⟩ : ∃ m, (m = 1 ∨ m = 8) ∧ a.length = m ∧ b.length = m := by
        rcases hab with ⟨h1, h2⟩ | ⟨h1, h2⟩
        · exact ⟨1, .inl rfl, h1, h2⟩
        · exact ⟨8, .inr rfl, h1, h2⟩
      obtain rfl := str_of e
      clear e
      exact done (3 * m) m _ _ rfl (by omega) (.inl ⟨m, t, a, b, rfl, rfl, ht1, ha, hb, hm, rfl, rfl, rfl⟩) (fun F1 w1 g1 v1 => value_if g1 o m c (by omega) t a b v1 ht1 ha hb (hH t (by simp)) (hH a (by simp)) (hH b (by simp)))
    rw [if_neg e] at hr
    clear e
    by_cases e : s.data.toList = [102, 98, 121]
    · rw [if_pos e] at hr
      obtain ⟨rfl, rfl⟩ : [0, 0] = tk ∧ _ = gv := by simpa using hr
      clear hr
      obtain ⟨a, b, rfl, _⟩ := fits_same hf
      obtain rfl : n = 2 := hn
      obtain rfl := str_of e
      clear e
      exact thrown rfl (fun F1 w1 _ v1 => vthrow_fby o c a b v1)
    rw [if_neg e] at hr
    clear e
    by_cases e : s.data.toList = [45, 62]
    · rw [if_pos e] at hr
      obtain ⟨rfl, rfl⟩ : [0, 0] = tk ∧ _ = gv := by simpa using hr
      clear hr
      obtain ⟨a, b, rfl, _⟩ := fits_same hf
      obtain rfl : n = 2 := hn
      obtain rfl := str_of e
      clear e
      exact thrown rfl (fun F1 w1 _ v1 => vthrow_arrow o c a b v1)
    rw [if_neg e] at hr
    clear e
    by_cases e : s.data.toList = [112, 114, 101]
    · rw [if_pos e] at hr
      obtain ⟨rfl, rfl⟩ : [0] = tk ∧ _ = gv := by simpa using hr
      clear hr
      obtain ⟨a, rfl⟩ := fits_any hf
      obtain rfl : n = 1 := hn
      obtain rfl := str_of e
      clear e
      exact thrown rfl (fun F1 w1 _ v1 => vthrow_pre o c a v1)
    rw [if_neg e] at hr
    clear e
    by_cases e : s.data.toList = [60, 62]
    · rw [if_pos e] at hr
      obtain ⟨rfl, rfl⟩ : [0, 0] = tk ∧ _ = gv := by simpa using hr
      clear hr
      obtain ⟨a, b, rfl, hab⟩ := fits_same hf
      obtain rfl : n = 2 := hn
      obtain ⟨m, hm, ha, hb⟩ : ∃ m, (m = 1 ∨ m = 8) ∧ a.length = m ∧ b.length = m := by
        rcases hab with ⟨h1, h2⟩ | ⟨h1, h2⟩
        · exact ⟨1, .inl rfl, h1, h2⟩
        · exact ⟨8, .inr rfl, h1, h2⟩
      obtain rfl := str_of e
      clear e
      exact done (4 * m) 1 _ _ rfl (by omega) (.inr (.inl ⟨m, a, b, rfl, rfl, ha, hb, hm, rfl, rfl, rfl⟩)) (fun F1 w1 g1 v1 => value_ne g1 o m c (by omega) a b v1 ha hb (hH a (by simp)) (hH b (by simp)))
    rw [if_neg e] at hr
    clear e
    by_cases e : s.data.toList = [61]
    · rw [if_pos e] at hr
      obtain ⟨rfl, rfl⟩ : [0, 0] = tk ∧ _ = gv := by simpa using hr
      clear hr
      obtain ⟨a, b, rfl, hab⟩ := fits_same hf
      obtain rfl : n = 2 := hn
      obtain ⟨m, hm, ha, hb⟩ : ∃ m, (m = 1 ∨ m = 8) ∧ a.length = m ∧ b.length = m := by
        rcases hab with ⟨h1, h2⟩ | ⟨h1, h2⟩
        · exact ⟨1, .inl rfl, h1, h2⟩
        · exact ⟨8, .inr rfl, h1, h2⟩
      obtain rfl := str_of e
      clear e
      exact done (4 * m) 1 _ _ rfl (by omega) (.inr (.inr (.inl ⟨m, a, b, rfl, rfl, ha, hb, hm, rfl, rfl, rfl⟩))) (fun F1 w1 g1 v1 => value_eq g1 o m c (by omega) a b v1 ha hb (hH a (by simp)) (hH b (by simp)))
    rw [if_neg e] at hr
    clear e
    by_cases e : s.data.toList = [62, 61]
    · rw [if_pos e] at hr
      obtain ⟨rfl, rfl⟩ : [2, 2] = tk ∧ _ = gv := by simpa using hr
      clear hr
      obtain ⟨a, b, rfl, ka, kb⟩ := fits_two (by decide) hf
      obtain rfl : n = 2 := hn
      have ha := kind_len.2.1 ka
      have hb := kind_len.2.1 kb
      obtain rfl := str_of e
      clear e
      exact done 32 1 _ _ rfl (by omega) (.inr (.inr (.inr (.inl ⟨a, b, rfl, rfl, ha, hb, rfl, rfl, rfl⟩)))) (fun F1 w1 g1 v1 => value_ge g1 o c (by omega) a b v1 ha hb (hH a (by simp)) (hH b (by simp)))
    rw [if_neg e] at hr
    clear e
    by_cases e : s.data.toList = [62]
    · rw [if_pos e] at hr
      obtain ⟨rfl, rfl⟩ : [2, 2] = tk ∧ _ = gv := by simpa using hr
      clear hr
      obtain ⟨a, b, rfl, ka, kb⟩ := fits_two (by decide) hf
      obtain rfl : n = 2 := hn
      have ha := kind_len.2.1 ka
      have hb := kind_len.2.1 kb
      obtain rfl := str_of e
      clear e
      exact done 32 1 _ _ rfl (by omega) (.inr (.inr (.inr (.inr (.inl ⟨a, b, rfl, rfl, ha, hb, rfl, rfl, rfl⟩))))) (fun F1 w1 g1 v1 => value_gt g1 o c (by omega) a b v1 ha hb (hH a (by simp)) (hH b (by simp)))
    rw [if_neg e] at hr
    clear e
    by_cases e : s.data.toList = [60, 61]
    · rw [if_pos e] at hr
      obtain ⟨rfl, rfl⟩ : [2, 2] = tk ∧ _ = gv := by simpa using hr
      clear hr
      obtain ⟨a, b, rfl, ka, kb⟩ := fits_two (by decide) hf
      obtain rfl : n = 2 := hn
      have ha := kind_len.2.1 ka
      have hb := kind_len.2.1 kb
      obtain rfl := str_of e
      clear e
      exact done 32 1 _ _ rfl (by omega) (.inr (.inr (.inr (.inr (.inr (.inl ⟨a, b, rfl, rfl, ha, hb, rfl, rfl, rfl⟩)))))) (fun F1 w1 g1 v1 => value_le g1 o c (by omega) a b v1 ha hb (hH a (by simp)) (hH b (by simp)))
    rw [if_neg e] at hr
    clear e
    by_cases e : s.data.toList = [60]
    · rw [if_pos e] at hr
      obtain ⟨rfl, rfl⟩ : [2, 2] = tk ∧ _ = gv := by simpa using hr
      clear hr
      obtain ⟨a, b, rfl, ka, kb⟩ := fits_two (by decide) hf
      obtain rfl : n = 2 := hn
      have ha := kind_len.2.1 ka
      have hb := kind_len.2.1 kb
      obtain rfl := str_of e
      clear e
      exact done 32 1 _ _ rfl (by omega) (.inr (.inr (.inr (.inr (.inr (.inr (.inl ⟨a, b, rfl, rfl, ha, hb, rfl, rfl, rfl⟩))))))) (fun F1 w1 g1 v1 => value_lt g1 o c (by omega) a b v1 ha hb (hH a (by simp)) (hH b (by simp)))
    rw [if_neg e] at hr
    clear e
    by_cases e : s.data.toList = [109, 111, 100]
    · rw [if_pos e] at hr
      obtain ⟨rfl, rfl⟩ : [2, 2] = tk ∧ _ = gv := by simpa using hr
      clear hr
      obtain ⟨a, b, rfl, ka, kb⟩ := fits_two (by decide) hf
      obtain rfl : n = 2 := hn
      have ha := kind_len.2.1 ka
      have hb := kind_len.2.1 kb
      obtain rfl := str_of e
      clear e
      exact done 1020 8 _ _ rfl (by omega) (.inr (.inr (.inr (.inr (.inr (.inr (.inr (.inl ⟨a, b, rfl, rfl, ha, hb, rfl, rfl, rfl⟩)))))))) (fun F1 w1 g1 v1 => value_mod g1 (by omega) o c a b v1 ha hb (hH a (by simp)) (hH b (by simp)))
    rw [if_neg e] at hr
    clear e
    by_cases e : s.data.toList = [47]
    · rw [if_pos e] at hr
      obtain ⟨rfl, rfl⟩ : [2, 2] = tk ∧ _ = gv := by simpa using hr
      clear hr
      obtain ⟨a, b, rfl, ka, kb⟩ := fits_two (by decide) hf
      obtain rfl : n = 2 := hn
      have ha := kind_len.2.1 ka
      have hb := kind_len.2.1 kb
      obtain rfl := str_of e
      clear e
      exact done 1020 8 _ _ rfl (by omega) (.inr (.inr (.inr (.inr (.inr (.inr (.inr (.inr (.inl ⟨a, b, rfl, rfl, ha, hb, rfl, rfl, rfl⟩))))))))) (fun F1 w1 g1 v1 => value_div g1 (by omega) o c a b v1 ha hb (hH a (by simp)) (hH b (by simp)))
    rw [if_neg e] at hr
    clear e
    by_cases e : s.data.toList = [42]
    · rw [if_pos e] at hr
      obtain ⟨rfl, rfl⟩ : [2, 2] = tk ∧ _ = gv := by simpa using hr
      clear hr
      obtain ⟨a, b, rfl, ka, kb⟩ := fits_two (by decide) hf
      obtain rfl : n = 2 := hn
      have ha := kind_len.2.1 ka
      have hb := kind_len.2.1 kb
      obtain rfl := str_of e
      clear e
      exact done 640 8 _ _ rfl (by omega) (.inr (.inr (.inr (.inr (.inr (.inr (.inr (.inr (.inr (.inl ⟨a, b, rfl, rfl, ha, hb, rfl, rfl, rfl⟩)))))))))) (fun F1 w1 g1 v1 => value_times g1 (by omega) o c a b v1 ha hb (hH a (by simp)) (hH b (by simp)))
    rw [if_neg e] at hr
    clear e
    by_cases e : s.data.toList = [45]
    · rw [if_pos e] at hr
      obtain ⟨rfl, rfl⟩ : [2, 2] = tk ∧ _ = gv := by simpa using hr
      clear hr
      obtain ⟨a, b, rfl, ka, kb⟩ := fits_two (by decide) hf
      obtain rfl : n = 2 := hn
      have ha := kind_len.2.1 ka
      have hb := kind_len.2.1 kb
      obtain rfl := str_of e
      clear e
      exact done 72 8 _ _ rfl (by omega) (.inr (.inr (.inr (.inr (.inr (.inr (.inr (.inr (.inr (.inr (.inl ⟨a, b, rfl, rfl, ha, hb, rfl, rfl, rfl⟩))))))))))) (fun F1 w1 g1 v1 => value_minus g1 o c (by omega) a b v1 ha hb (hH a (by simp)) (hH b (by simp)))
    rw [if_neg e] at hr
    clear e
    by_cases e : s.data.toList = [43]
    · rw [if_pos e] at hr
      obtain ⟨rfl, rfl⟩ : [2, 2] = tk ∧ _ = gv := by simpa using hr
      clear hr
      obtain ⟨a, b, rfl, ka, kb⟩ := fits_two (by decide) hf
      obtain rfl : n = 2 := hn
      have ha := kind_len.2.1 ka
      have hb := kind_len.2.1 kb
      obtain rfl := str_of e
      clear e
      exact done 72 8 _ _ rfl (by omega) (.inr (.inr (.inr (.inr (.inr (.inr (.inr (.inr (.inr (.inr (.inr (.inl ⟨a, b, rfl, rfl, ha, hb, rfl, rfl, rfl⟩)))))))))))) (fun F1 w1 g1 v1 => value_plus g1 (by omega) o c a b v1 ha hb (hH a (by simp)) (hH b (by simp)))
    rw [if_neg e] at hr
    clear e
    by_cases e : s.data.toList = [110, 101, 103]
    · rw [if_pos e] at hr
      obtain ⟨rfl, rfl⟩ : [2] = tk ∧ _ = gv := by simpa using hr
      clear hr
      obtain ⟨a, rfl, ka⟩ := fits_one (by decide) hf
      obtain rfl : n = 1 := hn
      have ha := kind_len.2.1 ka
      obtain rfl := str_of e
      clear e
      exact done 40 8 _ _ rfl (by omega) (.inr (.inr (.inr (.inr (.inr (.inr (.inr (.inr (.inr (.inr (.inr (.inr (.inl ⟨a, rfl, rfl, ha, rfl, rfl, rfl⟩))))))))))))) (fun F1 w1 g1 v1 => value_neg g1 o c (by omega) a v1 ha (hH a (by simp)))
    rw [if_neg e] at hr
    clear e
    by_cases e : s.data.toList = [61, 62]
    · rw [if_pos e] at hr
      obtain ⟨rfl, rfl⟩ : [1, 1] = tk ∧ _ = gv := by simpa using hr
      clear hr
      obtain ⟨a, b, rfl, ka, kb⟩ := fits_two (by decide) hf
      obtain rfl : n = 2 := hn
      have ha := kind_len.1.1 ka
      have hb := kind_len.1.1 kb
      obtain rfl := str_of e
      clear e
      exact done 1 1 _ _ rfl (by omega) (.inr (.inr (.inr (.inr (.inr (.inr (.inr (.inr (.inr (.inr (.inr (.inr (.inr (.inl ⟨a, b, rfl, rfl, ha, hb, rfl, rfl, rfl⟩)))))))))))))) (fun F1 w1 g1 v1 => value_imp g1 o c (by omega) a b v1 ha hb (hH a (by simp)) (hH b (by simp)))
    rw [if_neg e] at hr
    clear e
    by_cases e : s.data.toList = [120, 111, 114]
    · rw [if_pos e] at hr
      obtain ⟨rfl, rfl⟩ : [1, 1] = tk ∧ _ = gv := by simpa using hr
      clear hr
      obtain ⟨a, b, rfl, ka, kb⟩ := fits_two (by decide) hf
      obtain rfl : n = 2 := hn
      have ha := kind_len.1.1 ka
      have hb := kind_len.1.1 kb
      obtain rfl := str_of e
      clear e
      exact done 3 1 _ _ rfl (by omega) (.inr (.inr (.inr (.inr (.inr (.inr (.inr (.inr (.inr (.inr (.inr (.inr (.inr (.inr (.inl ⟨a, b, rfl, rfl, ha, hb, rfl, rfl, rfl⟩))))))))))))))) (fun F1 w1 g1 v1 => value_xor g1 o c (by omega) a b v1 ha hb (hH a (by simp)) (hH b (by simp)))
    rw [if_neg e] at hr
    clear e
    by_cases e : s.data.toList = [111, 114]
    · rw [if_pos e] at hr
      obtain ⟨rfl, rfl⟩ : [1, 1] = tk ∧ _ = gv := by simpa using hr
      clear hr
      obtain ⟨a, b, rfl, ka, kb⟩ := fits_two (by decide) hf
      obtain rfl : n = 2 := hn
      have ha := kind_len.1.1 ka
      have hb := kind_len.1.1 kb
      obtain rfl := str_of e
      clear e
      exact done 1 1 _ _ rfl (by omega) (.inr (.inr (.inr (.inr (.inr (.inr (.inr (.inr (.inr (.inr (.inr (.inr (.inr (.inr (.inr (.inl ⟨a, b, rfl, rfl, ha, hb, rfl, rfl, rfl⟩)))))))))))))))) (fun F1 w1 g1 v1 => value_or g1 o c (by omega) a b v1 ha hb (hH a (by simp)) (hH b (by simp)))
    rw [if_neg e] at hr
    clear e
    by_cases e : s.data.toList = [97, 110, 100]
    · rw [if_pos e] at hr
      obtain ⟨rfl, rfl⟩ : [1, 1] = tk ∧ _ = gv := by simpa using hr
      clear hr
      obtain ⟨a, b, rfl, ka, kb⟩ := fits_two (by decide) hf
      obtain rfl : n = 2 := hn
      have ha := kind_len.1.1 ka
      have hb := kind_len.1.1 kb
      obtain rfl := str_of e
      clear e
      exact done 1 1 _ _ rfl (by omega) (.inr (.inr (.inr (.inr (.inr (.inr (.inr (.inr (.inr (.inr (.inr (.inr (.inr (.inr (.inr (.inr (.inl ⟨a, b, rfl, rfl, ha, hb, rfl, rfl, rfl⟩))))))))))))))))) (fun F1 w1 g1 v1 => value_and g1 o c (by omega) a b v1 ha hb (hH a (by simp)) (hH b (by simp)))
    rw [if_neg e] at hr
    clear e
    by_cases e : s.data.toList = [110, 111, 116]
    · rw [if_pos e] at hr
      obtain ⟨rfl, rfl⟩ : [1] = tk ∧ _ = gv := by simpa using hr
      clear hr
      obtain ⟨a, rfl, ka⟩ := fits_one (by decide) hf
      obtain rfl : n = 1 := hn
      have ha := kind_len.1.1 ka
      obtain rfl := str_of e
      clear e
      exact done 0 1 _ _ rfl (by omega) (.inr (.inr (.inr (.inr (.inr (.inr (.inr (.inr (.inr (.inr (.inr (.inr (.inr (.inr (.inr (.inr (.inr (⟨a, rfl, rfl, ha, rfl, rfl, rfl⟩)))))))))))))))))) (fun F1 w1 g1 v1 => value_not g1 o c (by omega) a v1 ha (hH a (by simp)))
    rw [if_neg e] at hr
    clear e
    by_cases e : s.data.toList = [102, 97, 108, 115, 101]
    · rw [if_pos e] at hr
      obtain ⟨rfl, rfl⟩ : [] = tk ∧ _ = gv := by simpa using hr
      clear hr
      exact absurd (fits_none hf) hne
    rw [if_neg e] at hr
    clear e
    by_cases e : s.data.toList = [116, 114, 117, 101]
    · rw [if_pos e] at hr
      obtain ⟨rfl, rfl⟩ : [] = tk ∧ _ = gv := by simpa using hr
      clear hr
      exact absurd (fits_none hf) hne
    rw [if_neg e] at hr
    clear e
    by_cases e : s.data.toList = [105, 110, 116]
    · rw [if_pos e] at hr
      obtain ⟨rfl, rfl⟩ : [] = tk ∧ _ = gv := by simpa using hr
      clear hr
      exact absurd (fits_none hf) hne
    rw [if_neg e] at hr
    clear e
    cases hr
end Go.Proofs.YtpiglmaojonbnaaGreatDoor
