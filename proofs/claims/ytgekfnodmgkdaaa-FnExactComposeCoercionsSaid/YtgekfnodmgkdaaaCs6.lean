/- The specification's l6Cast. -/
import Derived.Test.YtgekfnodmgkdaaaCk
import Derived.Test.YtgekfnodmgkdaaaRgL
import Derived.Test.YtgekfnodmgkdaaaPkA
namespace Go.Proofs.Ytgekfnodmgkdaaa
open Go.RowKit

theorem l6Id_any (k : Int) (w : World) : Calls Try.prog 73 #[.int .i64 k] w fun e w' => e = .returned (.agg #[.int .i64 1, .int .i64 k, .int .i64 0, .slice none 0 0]) ∧ Below w.heap.size w w' := by
  go_enter Try.func73, Try.ntmps73
  go_wp2_with fail
  exact bodyPost_ret (v := .agg #[.int .i64 1, .int .i64 k, .int .i64 0, .slice none 0 0]) (by simp [results, Try.results73, go_sem]) rfl ⟨rfl, (Below.refl _ _).alloc (Nat.le_refl _) _⟩

end Go.Proofs.Ytgekfnodmgkdaaa
