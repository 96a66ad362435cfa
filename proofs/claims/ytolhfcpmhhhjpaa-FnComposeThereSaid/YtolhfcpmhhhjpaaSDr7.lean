/- Draws: a source opened, two types drawn (DrawSubPositive, DrawSubtype). -/
import Derived.Deep.RegionLaw
import Derived.Test.YtolhfcpmhhhjpaaSDr3
import Derived.Test.YtolhfcpmhhhjpaaSDr4
import Derived.Test.YtolhfcpmhhhjpaaSG1
import Derived.Test.YtolhfcpmhhhjpaaSDr6
import Derived.Test.YtolhfcpmhhhjpaaSG10
namespace Go.Proofs.Ytolhfcpmhhhjpaa
open Go.RowKit

/-- What a draw of two types says. -/
def TwoX (w : World) (P : Ty → Ty → Prop) (e : Ending) (w' : World) : Prop := ∃ t u v1 v2 f1 f2, e = .returned (.tuple #[v1, v2]) ∧ P t u ∧ t.At w' v1 f1 ∧ u.At w' v2 f2 ∧ (∀ b ∈ f1, w.heap.size ≤ b ∧ ∀ o, w'.frozen? ⟨b, o, none⟩ = false) ∧ (∀ b ∈ f2, w.heap.size ≤ b ∧ ∀ o, w'.frozen? ⟨b, o, none⟩ = false) ∧ Below w.heap.size w w'

theorem two_close {w w2 : World} {R1 R2 : Nat} {t u : Ty} {x y x' y' : Value} {f1 f2 : List Nat} {P : Ty → Ty → Prop} (hP : P t u) (h1 : t.At w2 (.agg #[x, y]) f1) (h2 : u.At w2 (.agg #[x', y']) f2) (m1 : ∀ b ∈ f1, w.heap.size ≤ b ∧ b ≠ R1 ∧ b ≠ R2) (m2 : ∀ b ∈ f2, w.heap.size ≤ b ∧ b ≠ R1 ∧ b ≠ R2) (z1 : ∀ b ∈ f1, ∀ o, w2.frozen? ⟨b, o, none⟩ = false) (z2 : ∀ b ∈ f2, ∀ o, w2.frozen? ⟨b, o, none⟩ = false) (hb : Below w.heap.size w w2) (hR1 : w.heap.size ≤ R1) (hR2 : w.heap.size ≤ R2) :
    TwoX w P (.returned (.tuple #[.agg #[x, y], .agg #[x', y']])) ((((w2.setCell ⟨R1, 0, none⟩ x).setCell ⟨R1, 1, none⟩ y).setCell ⟨R2, 0, none⟩ x').setCell ⟨R2, 1, none⟩ y') := by
  have n1 := fun b hb => (m1 b hb).2
  have n2 := fun b hb => (m2 b hb).2
  refine ⟨t, u, _, _, f1, f2, rfl, hP, ?_, ?_, fun b hb => ⟨(m1 b hb).1, fun o => (frozen_setCell_ne _ _ _ b o (n1 b hb).2).trans ((frozen_setCell_ne _ _ _ b o (n1 b hb).2).trans ((frozen_setCell_ne _ _ _ b o (n1 b hb).1).trans ((frozen_setCell_ne _ _ _ b o (n1 b hb).1).trans (z1 b hb o))))⟩, fun b hb => ⟨(m2 b hb).1, fun o => (frozen_setCell_ne _ _ _ b o (n2 b hb).2).trans ((frozen_setCell_ne _ _ _ b o (n2 b hb).2).trans ((frozen_setCell_ne _ _ _ b o (n2 b hb).1).trans ((frozen_setCell_ne _ _ _ b o (n2 b hb).1).trans (z2 b hb o))))⟩, (((hb.setCell (p := ⟨R1, 0, none⟩) hR1 x).setCell (p := ⟨R1, 1, none⟩) hR1 y).setCell (p := ⟨R2, 0, none⟩) hR2 x').setCell (p := ⟨R2, 1, none⟩) hR2 y'⟩
  · exact (((h1.setCell (a := ⟨R1, 0, none⟩) (fun b hb => (n1 b hb).1) x).setCell (a := ⟨R1, 1, none⟩) (fun b hb => (n1 b hb).1) y).setCell (a := ⟨R2, 0, none⟩) (fun b hb => (n1 b hb).2) x').setCell (a := ⟨R2, 1, none⟩) (fun b hb => (n1 b hb).2) y'
  · exact (((h2.setCell (a := ⟨R1, 0, none⟩) (fun b hb => (n2 b hb).1) x).setCell (a := ⟨R1, 1, none⟩) (fun b hb => (n2 b hb).1) y).setCell (a := ⟨R2, 0, none⟩) (fun b hb => (n2 b hb).2) x').setCell (a := ⟨R2, 1, none⟩) (fun b hb => (n2 b hb).2) y'

end Go.Proofs.Ytolhfcpmhhhjpaa
