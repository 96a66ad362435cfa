/- What a law's own variable holds behind the statement that makes it. -/
import Derived.Test.YtephhhnoobkbhaaWalkT
namespace Go.Proofs.Ytephhhnoobkbhaa
open Go.RowKit

/-- A block of two cells, written: what it holds, and a tree beside it. -/
theorem two_stores {y3 : World} {b B : Nat} {c0 c1 x y v : Value} {T : TypeId} {t : Ty} {g : List Nat} (Q : y3.heap[b]? = some (.cells #[c0, c1] T (0, 0))) (hu : t.At y3 v g) (hg : Fresh B y3 g) (hb : b < B) :
    ((y3.setCell ⟨b, 0, none⟩ x).setCell ⟨b, 1, none⟩ y).cell? ⟨b, 0, none⟩ = some x ∧ ((y3.setCell ⟨b, 0, none⟩ x).setCell ⟨b, 1, none⟩ y).cell? ⟨b, 1, none⟩ = some y ∧ t.At ((y3.setCell ⟨b, 0, none⟩ x).setCell ⟨b, 1, none⟩ y) v g :=
  ⟨by rw [cell_of_block (heap_setCell_at (heap_setCell_at Q _) _)]; rfl, by rw [cell_of_block (heap_setCell_at (heap_setCell_at Q _) _)]; rfl, (keepR hu hg hb).1⟩

theorem one_alloc {y3 : World} {x y v : Value} {T : TypeId} {t : Ty} {g : List Nat} (hu : t.At y3 v g) :
    (y3.alloc (Obj.cells #[x, y] T)).cell? ⟨y3.heap.size, 0, none⟩ = some x ∧ (y3.alloc (Obj.cells #[x, y] T)).cell? ⟨y3.heap.size, 1, none⟩ = some y ∧ t.At (y3.alloc (Obj.cells #[x, y] T)) v g :=
  ⟨by rw [cell_of_block (alloc_new _ _)]; rfl, by rw [cell_of_block (alloc_new _ _)]; rfl, hu.below ((Below.refl _ _).alloc (Nat.le_refl _) _)⟩

end Go.Proofs.Ytephhhnoobkbhaa
