/- The specification's meets and joins. -/
import Derived.Test.YtelbpgdlcnnabaaPkA
import Derived.Test.YtelbpgdlcnnabaaCons
namespace Go.Proofs.Ytelbpgdlcnnabaa
open Go.RowKit

mutual
/-- The meet of two consistent types. -/
def meet : Ty → Ty → Ty
  | .mk k ts, .mk k' us => if k = 1 then .mk k' us else if k' = 1 then .mk k ts else .mk k (meetL ts us)
def meetL : List Ty → List Ty → List Ty
  | t :: ts, u :: us => meet t u :: meetL ts us
  | _, _ => []
end

mutual
/-- The join of two types. -/
def join : Ty → Ty → Ty
  | .mk k ts, .mk k' us => if k = k' then .mk k (joinL ts us) else .mk 1 []
def joinL : List Ty → List Ty → List Ty
  | t :: ts, u :: us => join t u :: joinL ts us
  | _, _ => []
end

theorem meetL_zip : ∀ ts us : List Ty, meetL ts us = List.zipWith meet ts us
  | t :: ts, u :: us => by simp only [meetL, List.zipWith_cons_cons, meetL_zip ts us]
  | [], _ => by simp only [meetL, List.zipWith_nil_left]
  | _ :: _, [] => by simp only [meetL, List.zipWith_nil_right]

theorem joinL_zip : ∀ ts us : List Ty, joinL ts us = List.zipWith join ts us
  | t :: ts, u :: us => by simp only [joinL, List.zipWith_cons_cons, joinL_zip ts us]
  | [], _ => by simp only [joinL, List.zipWith_nil_left]
  | _ :: _, [] => by simp only [joinL, List.zipWith_nil_right]

theorem consL_get : ∀ {ts us : List Ty} {j : Nat} (h : j < ts.length) (h' : j < us.length), consL ts us = true → cons ts[j] us[j] = true
  | t :: ts, u :: us, 0, _, _, h => by simp only [consL, Bool.and_eq_true] at h; exact h.1
  | t :: ts, u :: us, j + 1, h1, h2, h => by
    simp only [consL, Bool.and_eq_true] at h
    exact consL_get (ts := ts) (us := us) (j := j) (by simpa using h1) (by simpa using h2) h.2

/-- The cells of two arguments' boxes and of the result, which nothing writes while a fourth block is built. -/
theorem boxes_out2 {w wr : World} {x y x' y' x2 y2 : Value} {T T' T2 : TypeId} {o : Obj} (h : Below (w.heap.size + 1 + 1 + 1) ((((w.alloc (Obj.cells #[x, y] T)).alloc (Obj.cells #[x', y'] T')).alloc (Obj.cells #[x2, y2] T2)).alloc o) wr) :
    wr.cell? ⟨w.heap.size, 0, none⟩ = some x ∧ wr.cell? ⟨w.heap.size, 1, none⟩ = some y ∧ wr.cell? ⟨w.heap.size + 1, 0, none⟩ = some x' ∧ wr.cell? ⟨w.heap.size + 1, 1, none⟩ = some y' ∧
      wr.cell? ⟨w.heap.size + 1 + 1, 0, none⟩ = some x2 ∧ wr.cell? ⟨w.heap.size + 1 + 1, 1, none⟩ = some y2 ∧ ∀ o, wr.frozen? ⟨w.heap.size + 1 + 1, o, none⟩ = false := by
  have hs : (w.alloc (Obj.cells #[x, y] T)).heap.size = w.heap.size + 1 := by simp
  have hs2 : ((w.alloc (Obj.cells #[x, y] T)).alloc (Obj.cells #[x', y'] T')).heap.size = w.heap.size + 1 + 1 := by simp
  have h2 : wr.heap[w.heap.size + 1 + 1]? = some (Obj.cells #[x2, y2] T2) := by
    rw [h.block (w.heap.size + 1 + 1) (by omega), Below.heap_alloc _ _ _ (by simp), ← hs2]
    exact alloc_new _ _
  have h1 : wr.heap[w.heap.size + 1]? = some (Obj.cells #[x', y'] T') := by
    rw [h.block (w.heap.size + 1) (by omega), Below.heap_alloc _ _ _ (by simp), Below.heap_alloc _ _ _ (by simp), ← hs]
    exact alloc_new _ _
  have h0 : wr.heap[w.heap.size]? = some (Obj.cells #[x, y] T) := by
    rw [h.block w.heap.size (by omega), Below.heap_alloc _ _ _ (by simp; omega), Below.heap_alloc _ _ _ (by simp; omega), Below.heap_alloc _ _ _ (by simp)]
    exact alloc_new _ _
  exact ⟨by rw [cell_of_block h0]; rfl, by rw [cell_of_block h0]; rfl, by rw [cell_of_block h1]; rfl, by rw [cell_of_block h1]; rfl, by rw [cell_of_block h2]; rfl, by rw [cell_of_block h2]; rfl, fun o => frozen_of_block h2⟩

end Go.Proofs.Ytelbpgdlcnnabaa
