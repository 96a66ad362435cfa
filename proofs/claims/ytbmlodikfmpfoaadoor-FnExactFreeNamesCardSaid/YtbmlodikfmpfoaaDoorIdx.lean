/- The program's test on a form's signs. -/
import Derived.Test.YtbmlodikfmpfoaaDoorMPure
import Derived.Test.YtbmlodikfmpfoaaDoorIdb
import Derived.Lib.Bytealg
namespace Go.Proofs.YtbmlodikfmpfoaaDoor
open Go.RowKit

/-- Whether a form has a sign. -/
def showsB (s : ByteArray) (c : Int) : Bool := decide (0 ≤ Lib.indexByte s.data.toList c.toNat.toUInt8)

set_option maxHeartbeats 400000 in
theorem shows_any (s : ByteArray) (c : Int) (w : World) :
    Calls Tryd.prog 185 #[.string s, .int .u8 c] w fun e w' => e = .returned (.bool (showsB s c)) ∧ w' = w := by
  go_enter Tryd.func185, Tryd.ntmps185
  go_wp2_with fail
  refine (indexByte_any s c _).mono ?_
  rintro e w1 ⟨rfl, rfl⟩
  go_wp2_with fail
  go_ret
  exact ⟨ret_b (by simp [showsB]), rfl⟩

set_option maxHeartbeats 400000 in
theorem validOrZero_any (a b c : Bool) (w : World) :
    Calls Tryd.prog 184 #[.bool a, .bool b, .bool c] w fun e w' => e = .returned (.bool (if a then b else c)) ∧ w' = w := by
  cases a
  all_goals
    go_enter Tryd.func184, Tryd.ntmps184
    go_wp2_with fail
    go_ret
    exact ⟨rfl, rfl⟩
end Go.Proofs.YtbmlodikfmpfoaaDoor
