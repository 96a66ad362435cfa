/- The specification's CountNodes. -/
import Derived.Test.YtlkiiphnibideaaDoorCnM
namespace Go.Proofs.YtlkiiphnibideaaDoor
open Go.RowKit

set_option maxHeartbeats 1000000 in
theorem specCountNodes (t : Tm) (v : Value) (fp : List Nat) (w : World) (hsz : t.sz ≤ 1048576) (hat : t.At w v fp) :
    Calls Tryd.prog 35 #[v] w fun e w' => e = .returned (.int .i64 (cntN t)) ∧ Below w.heap.size w w' := by
  obtain ⟨k, nm, num, k1, n1, a1, c1, k2, n2, a2, c2, lb, n3, a3, c3, rfl⟩ := hat.agg
  have hb0 : Below w.heap.size w (w.alloc (Obj.cells #[.int .i64 k, .string nm, .int .i64 num, .int .i64 k1, .slice a1 n1 c1, .int .i64 k2, .slice a2 n2 c2, .int .i64 lb, .slice a3 n3 c3] 28)) := (Below.refl _ _).alloc (Nat.le_refl _) _
  have HV := hid (specTermValid t _ _ _ hsz (hat.below hb0))
  have HT := hid (show cntN t = if vldM t then cntD 12 t else 0 from rfl)
  generalize cntN t = vv at *
  generalize vldM t = r at *
  go_enter Tryd.func35, Tryd.ntmps35
  go_wp2_with fail
  refine HV.out.mono ?_
  rintro e w1 ⟨rfl, hb1⟩
  obtain ⟨z0, z1, z2, z3, z4, z5, z6, z7, z8⟩ := box9 hb1
  have b1 := below_trans hb0 hb1
  have hat2 := hat.below b1
  cases r
  · go_wp2_with fail
    go_ret
    exact ⟨ret_i (by rw [HT.out]; rfl), b1⟩
  · go_wp2_with fail
    refine (l2Count_any 12 t _ _ 12 _ (by omega) (by omega) rfl hsz hat2).mono ?_
    rintro e w2 ⟨rfl, hb2⟩
    go_wp2_with fail
    go_ret
    exact ⟨ret_i (by rw [HT.out]; rfl), below_trans b1 hb2⟩
end Go.Proofs.YtlkiiphnibideaaDoor
