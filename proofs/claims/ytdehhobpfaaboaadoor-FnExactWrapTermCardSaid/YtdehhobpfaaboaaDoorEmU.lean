/- WrapTerm of the specification and of the program. -/
import Derived.Test.YtdehhobpfaaboaaDoorEm0
import Derived.Test.YtdehhobpfaaboaaDoorPkB
namespace Go.Proofs.YtdehhobpfaaboaaDoor
open Go.RowKit

/-- A term in new memory, and a bool. -/
def MadeEm (w : World) (t : Tm) (ok : Bool) (e : Ending) (w' : World) : Prop := ∃ v fp, e = .returned (.tuple #[v, .bool ok]) ∧ t.At w' v fp ∧ Fresh w.heap.size w' fp ∧ Below w.heap.size w w'

theorem noTm_at (w : World) : noTm.At w (.agg #[.int .i64 0, .string ⟨#[]⟩, .int .i64 0, .int .i64 0, .slice none 0 0, .int .i64 0, .slice none 0 0, .int .i64 0, .slice none 0 0]) [] :=
  Tm.at_mk.2 ⟨_, _, _, _, _, [], [], [], rfl, by decide, Ty.at_mk.2 ⟨_, rfl, .inl ⟨rfl, rfl, _, _, rfl⟩⟩, Ty.at_mk.2 ⟨_, rfl, .inl ⟨rfl, rfl, _, _, rfl⟩⟩, rfl, .inl ⟨rfl, rfl, _, _, rfl⟩⟩

theorem bOk_vldE {t : Tm} (h : vldM t = true) : bOk t := by
  rw [vldM, Bool.and_eq_true] at h
  exact bOk_shpM _ _ h.1

theorem nc_vldM {t : Tm} (h : vldM t = true) : ncT t := by
  rw [vldM, Bool.and_eq_true] at h
  exact nc_shpM _ _ h.1
end Go.Proofs.YtdehhobpfaaboaaDoor
