/-
  lustrumlaw3.coded BY ITS CONTRACT: an error's number is told.
-/
import Derived.Test.YtlclbidjdhlklaaDoorCode
import Derived.Deep.QuietTactic
import Derived.BigQuiet
import Derived.WalkSmall
namespace Go.Proofs.YtlclbidjdhlklaaDoor
open Go.RowKit Go.Extern.Stop Go.Stop Go.Extern

theorem coded_nil (w : World) : Calls Tryd.prog 8 #[.nilIface, .int .i64 0] w fun e w' => e = .returned (.bool true) ∧ w' = w := by
  go_enter Tryd.func8, Tryd.ntmps8
  go_wp2_with (go_at_call 34; refine (code_nil _).mono ?_; rintro e w' ⟨rfl, rfl⟩)
  go_ret
  exact ⟨rfl, rfl⟩

set_option maxHeartbeats 1000000 in
theorem coded_str (a : Nat → Addr) (b : Addr) (m : Nat) (c : Int) (cb : Array Value) (tb : TypeId) (w : World) (S : Sents a w) (hrow : w.heap[b.block]? = some (.cells cb tb (0, 0))) (hm : m ≤ 9) (hlt : ∀ j, j < m → b ≠ a j) (heq : m < 9 → a m = b) (hc : c = codeOf m) :
    Calls Tryd.prog 8 #[.iface 158 (.pointer (some b)), .int .i64 c] w fun e w' => e = .returned (.bool true) ∧ Below w.heap.size w w' := by
  subst hc
  go_enter Tryd.func8, Tryd.ntmps8
  go_wp2_with (go_at_call 34; refine (code_str a b m cb tb _ S hrow hm hlt heq).mono ?_; rintro e w' ⟨rfl, hb⟩)
  go_ret
  exact ⟨rfl, hb⟩
end Go.Proofs.YtlclbidjdhlklaaDoor
