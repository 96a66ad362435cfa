/- CountSlots of the specification and of the program. -/
import Derived.Test.YtdehhobpfaaboaaDoorTysS
import Derived.Test.YtdehhobpfaaboaaDoorTysT
import Derived.Test.YtdehhobpfaaboaaDoorEm0
namespace Go.Proofs.YtdehhobpfaaboaaDoor
open Go.RowKit

set_option maxRecDepth 100000 in
set_option maxHeartbeats 1000000 in
theorem specCountSlots (t : Tm) (v : Value) (fp : List Nat) (w : World) (hsz : t.sz ≤ 1048576) (hat : t.At w v fp) :
    Calls Tryd.prog 23 #[v] w fun e w' => e = .returned (.int .i64 ((tyLst t).length : Int)) ∧ Below w.heap.size w w' := by
  obtain ⟨e0, e1, e2, e3, e4, e5, e6, e7, e8, e9, e10, e11, e12, e13, e14, rfl⟩ := hat.agg
  have hb0 : Below w.heap.size w (w.alloc (Obj.cells #[.int .i64 e0, .string e1, .int .i64 e2, .int .i64 e3, .slice e5 e4 e6, .int .i64 e7, .slice e9 e8 e10, .int .i64 e11, .slice e13 e12 e14] 34)) := (Below.refl _ _).alloc (Nat.le_refl _) _
  have HC := hid (specTermTypes t _ fp _ hsz (hat.below hb0))
  have HB := hid hb0
  clear hat hb0
  go_enter Tryd.func23, Tryd.ntmps23
  go_wp2_with fail
  refine HC.out.mono ?_
  rintro e w1 ⟨s, f, rfl, hs, hf, hb1⟩
  obtain ⟨a, cap, rfl⟩ := hs.shape
  go_wp2_with fail
  go_ret
  exact ⟨rfl, below_trans HB.out hb1⟩

set_option maxRecDepth 100000 in
set_option maxHeartbeats 1000000 in
theorem implCountSlots (t : Tm) (v : Value) (fp : List Nat) (w : World) (hsz : t.sz ≤ 1048576) (hF : Forms w) (hat : t.At w v fp) :
    Calls Tryd.prog 24 #[v] w fun e w' => e = .returned (.int .i64 ((tyLst t).length : Int)) ∧ Below w.heap.size w w' := by
  obtain ⟨e0, e1, e2, e3, e4, e5, e6, e7, e8, e9, e10, e11, e12, e13, e14, rfl⟩ := hat.agg
  have hb0 : Below w.heap.size w (w.alloc (Obj.cells #[.int .i64 e0, .string e1, .int .i64 e2, .int .i64 e3, .slice e5 e4 e6, .int .i64 e7, .slice e9 e8 e10, .int .i64 e11, .slice e13 e12 e14] 34)) := (Below.refl _ _).alloc (Nat.le_refl _) _
  have HC := hid (implTermTypes t _ fp _ hsz (hF.below hb0) (hat.below hb0))
  have HB := hid hb0
  clear hat hb0 hF
  go_enter Tryd.func24, Tryd.ntmps24
  go_wp2_with fail
  refine HC.out.mono ?_
  rintro e w1 ⟨s, f, rfl, hs, hf, hb1⟩
  obtain ⟨a, cap, rfl⟩ := hs.shape
  go_wp2_with fail
  go_ret
  exact ⟨rfl, below_trans HB.out hb1⟩
end Go.Proofs.YtdehhobpfaaboaaDoor
