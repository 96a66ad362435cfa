/- The specification's ground types. -/
import Derived.Test.YtffmpjcjmffdeaaDoorPkA
namespace Go.Proofs.YtffmpjcjmffdeaaDoor
open Go.RowKit

def grdL (ts : List Ty) : List Ty := ts.map fun _ => .mk 1 []
def grd : Ty → Ty
  | .mk k ts => .mk k (grdL ts)
def kindT : Ty → Int
  | .mk k _ => k
def gndOk (t : Ty) : Bool := vld t && !(kindT t == 1)
def gndOf (t : Ty) : Ty := if gndOk t then grd t else .mk 0 []

theorem grd_cnt (t : Ty) : (grd t).cnt ≤ t.cnt := by
  cases t with
  | mk k ts =>
    have : ∀ us : List Ty, cntL (grdL us) = 0 := by
      intro us
      induction us with
      | nil => rfl
      | cons u us ih =>
        simp only [grdL, List.map_cons, cntL] at *
        simp [ih, Ty.cnt, cntL]
    simp only [grd, Ty.cnt, this]
    simp [grdL]

theorem grdL_take {ts : List Ty} {j : Nat} (h : j < ts.length) : (grdL ts).take (j + 1) = (grdL ts).take j ++ [.mk 1 []] := by
  rw [take_succ (by simpa [grdL] using h)]
  simp [grdL]

end Go.Proofs.YtffmpjcjmffdeaaDoor
