/- The specification's copies: l1Any, l1Copy. -/
import Derived.Test.YtephhhnoobkbhaaGrow
namespace Go.Proofs.Ytephhhnoobkbhaa
open Go.RowKit

set_option maxHeartbeats 400000 in
theorem l1Any_any (w : World) : Calls Try.prog 105 #[] w fun e w' => e = .returned (.agg #[.int .i64 1, .slice none 0 0]) ∧ Below w.heap.size w w' := by
  go_enter Try.func105, Try.ntmps105
  go_wp2_with fail
  exact bodyPost_ret (v := .agg #[.int .i64 1, .slice none 0 0]) (by simp [results, Try.results105, go_sem]) rfl ⟨rfl, (Below.refl _ _).alloc (Nat.le_refl _) _⟩

end Go.Proofs.Ytephhhnoobkbhaa
