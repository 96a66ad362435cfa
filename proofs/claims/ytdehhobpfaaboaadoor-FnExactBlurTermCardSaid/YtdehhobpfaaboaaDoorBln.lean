/- How many marks a blurred term takes. -/
import Derived.Test.YtdehhobpfaaboaaDoorBlv
import Derived.Test.YtdehhobpfaaboaaDoorLwT
namespace Go.Proofs.YtdehhobpfaaboaaDoor
open Go.RowKit

theorem cntL_bd : ∀ (L : List Ty) (B : Nat), (∀ u ∈ L, u.cnt ≤ B) → cntL L ≤ L.length * (B + 1)
  | [], _, _ => by simp [cntL]
  | t :: ts, B, h => by
    have h1 := h t (by simp)
    have h2 := cntL_bd ts B (fun u hu => h u (by simp [hu]))
    simp only [cntL, List.length_cons, Nat.add_mul, Nat.one_mul]
    omega

theorem bl_num (m : Int) (t : Tm) (ht : t.sz ≤ 1048576) : (blT m t).num ≤ t.num + 31457310 := by
  unfold blT
  split
  · have h1 := wiM_num (blurL m (tyLst t).length (tyLst t)) t
    have h2 := cntL_bd (blurL m (tyLst t).length (tyLst t)) 1048576 (blurL_cnt m _ _ _ (fun u hu => by
      have h := (tyLst_in hu).2
      have := tysOf_cnt t u h
      omega))
    rw [blurL_len] at h2
    have h3 : (tyLst t).length * (1048576 + 1) ≤ 30 * (1048576 + 1) := Nat.mul_le_mul_right _ (tyLst_30 t)
    omega
  · simp [zTm, Tm.num, numL, Ty.cnt, cntL]
end Go.Proofs.YtdehhobpfaaboaaDoor
