/- strings.IndexByte, and the program's test on a form's signs. -/
import Derived.Test.YtgmpndpehhbmgaaDoorMPure
import Derived.Lib.Bytealg
namespace Go.Proofs.YtgmpndpehhbmgaaDoor
open Go.RowKit

theorem run_index (s : ByteArray) (c : Int) (w : World) :
    (callFunc 159 #[.string s, .int .u8 c]).run Tryd.prog w = .ok (.value (.int .i64 (Lib.indexByte s.data.toList c.toNat.toUInt8))) w := by
  rw [run_callFunc_extern (e := Extern.BytealgIndexByte.indexByte) Tryd.func159 (by kernel_rfl) (by kernel_rfl) (by kernel_rfl) (by kernel_rfl), Lib.run_indexByteString]
  rfl

set_option maxHeartbeats 400000 in
theorem indexByteLite_any (s : ByteArray) (c : Int) (w : World) :
    Calls Tryd.prog 154 #[.string s, .int .u8 c] w fun e w' => e = .returned (.int .i64 (Lib.indexByte s.data.toList c.toNat.toUInt8)) ∧ w' = w := by
  have hd := run_index s c
  go_enter Tryd.func154, Tryd.ntmps154
  go_wp2_with fail
  go_ret
  exact ⟨rfl, rfl⟩

set_option maxHeartbeats 400000 in
theorem indexByte_any (s : ByteArray) (c : Int) (w : World) :
    Calls Tryd.prog 145 #[.string s, .int .u8 c] w fun e w' => e = .returned (.int .i64 (Lib.indexByte s.data.toList c.toNat.toUInt8)) ∧ w' = w := by
  go_enter Tryd.func145, Tryd.ntmps145
  go_wp2_with fail
  refine (indexByteLite_any s c _).mono ?_
  rintro e w1 ⟨rfl, rfl⟩
  go_wp2_with fail
  go_ret
  exact ⟨rfl, rfl⟩

/-- Whether a form has a sign. -/
def showsB (s : ByteArray) (c : Int) : Bool := decide (0 ≤ Lib.indexByte s.data.toList c.toNat.toUInt8)

set_option maxHeartbeats 400000 in
theorem shows_any (s : ByteArray) (c : Int) (w : World) :
    Calls Tryd.prog 118 #[.string s, .int .u8 c] w fun e w' => e = .returned (.bool (showsB s c)) ∧ w' = w := by
  go_enter Tryd.func118, Tryd.ntmps118
  go_wp2_with fail
  refine (indexByte_any s c _).mono ?_
  rintro e w1 ⟨rfl, rfl⟩
  go_wp2_with fail
  go_ret
  exact ⟨ret_b (by simp [showsB]), rfl⟩

set_option maxHeartbeats 400000 in
theorem validOrZero_any (a b c : Bool) (w : World) :
    Calls Tryd.prog 157 #[.bool a, .bool b, .bool c] w fun e w' => e = .returned (.bool (if a then b else c)) ∧ w' = w := by
  cases a
  all_goals
    go_enter Tryd.func157, Tryd.ntmps157
    go_wp2_with fail
    go_ret
    exact ⟨rfl, rfl⟩
end Go.Proofs.YtgmpndpehhbmgaaDoor
