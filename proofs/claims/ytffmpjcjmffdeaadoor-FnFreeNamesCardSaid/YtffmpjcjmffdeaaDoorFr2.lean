/- FreeNames, of the specification. -/
import Derived.Test.YtffmpjcjmffdeaaDoorPkE
namespace Go.Proofs.YtffmpjcjmffdeaaDoor
open Go.RowKit

set_option maxRecDepth 100000 in
set_option maxHeartbeats 1000000 in
theorem specFreeNames (t : Tm) (v : Value) (fp : List Nat) (w : World) (hsz : t.sz ≤ 1048576) (hat : t.At w v fp) :
    Calls Tryd.prog 42 #[v] w fun e w' => e = .returned (.string (freeS t)) ∧ Below w.heap.size w w' := by
  have hat0 := hat
  obtain ⟨k, nm, num, k1, n1, a1, c1, k2, n2, a2, c2, lb, n3, a3, c3, rfl⟩ := hat.agg
  have hb0 : Below w.heap.size w (w.alloc (Obj.cells #[.int .i64 k, .string nm, .int .i64 num, .int .i64 k1, .slice a1 n1 c1, .int .i64 k2, .slice a2 n2 c2, .int .i64 lb, .slice a3 n3 c3] 35)) := (Below.refl _ _).alloc (Nat.le_refl _) _
  have HV := hid (specTermValid t _ _ _ hsz (hat0.below hb0))
  have HT := hid (show freeS t = if vldM t then strN (frN 0 0 t) else ⟨#[]⟩ from rfl)
  have HOK := hid (fun h : vldM t = true => vldM_shp h)
  generalize vldM t = r at *
  go_enter Tryd.func42, Tryd.ntmps42
  go_wp2_with fail
  refine HV.out.mono ?_
  rintro e w1 ⟨rfl, hb1⟩
  obtain ⟨z0, z1, z2, z3, z4, z5, z6, z7, z8⟩ := box9 hb1
  have b1 := below_trans hb0 hb1
  have HAT := hid (hat.below b1)
  cases r
  · go_wp2_with fail
    go_ret
    exact ⟨ret_s (by rw [HT.out]; rfl), b1⟩
  · have HC := hid (l2Free_any t 0 0 12 _ _ _ (by omega) (by omega) (HOK.out rfl) HAT.out hsz)
    rw [strN_zero] at HC
    go_wp2_with fail
    refine HC.out.mono ?_
    rintro e w2 ⟨rfl, hb2⟩
    go_wp2_with fail
    go_ret
    exact ⟨ret_s (by rw [HT.out]; rfl), below_trans b1 hb2⟩
end Go.Proofs.YtffmpjcjmffdeaaDoor
