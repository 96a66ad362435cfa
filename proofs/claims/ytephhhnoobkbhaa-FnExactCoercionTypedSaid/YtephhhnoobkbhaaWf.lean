/- Consistency and precision as plain functions; well formed types; boxes of two. -/
import Derived.Test.YtephhhnoobkbhaaShape
import Derived.StillTailTactics
namespace Go.Proofs.Ytephhhnoobkbhaa
open Go.RowKit

mutual
/-- Consistent, of well-formed types. -/
def cons : Ty → Ty → Bool
  | .mk k ts, .mk k' us => if k = 1 ∨ k' = 1 then true else if k = k' then consL ts us else false
def consL : List Ty → List Ty → Bool
  | t :: ts, u :: us => cons t u && consL ts us
  | _, _ => true
end

mutual
/-- At least as precise, of well-formed types. -/
def prec : Ty → Ty → Bool
  | .mk k ts, .mk k' us => if k' = 1 then true else if k = k' then precL ts us else false
def precL : List Ty → List Ty → Bool
  | t :: ts, u :: us => prec t u && precL ts us
  | _, _ => true
end

/-- Well formed, to some depth. -/
def wf (t : Ty) : Prop := ∃ d, shp d t = true

theorem wf_mk {k : Int} {ts : List Ty} (h : wf (.mk k ts)) : kidsOf k = (ts.length : Int) ∧ ∀ t ∈ ts, wf t := by
  obtain ⟨d, hd⟩ := h
  cases d with
  | zero => simp [shp] at hd
  | succ d =>
    simp only [shp, Bool.and_eq_true, beq_iff_eq, List.all_eq_true] at hd
    exact ⟨hd.1, fun t ht => ⟨d, hd.2 t ht⟩⟩

theorem wf_of_vld {t : Ty} (h : vld t = true) : wf t := ⟨4, h⟩

theorem wf_len {k : Int} {ts us : List Ty} (h : wf (.mk k ts)) (h' : wf (.mk k us)) : ts.length = us.length := by
  have := (wf_mk h).1
  have := (wf_mk h').1
  omega

theorem consL_step {ts us : List Ty} {k : Nat} (h : k < ts.length) (h' : k < us.length) : consL (ts.drop k) (us.drop k) = (cons ts[k] us[k] && consL (ts.drop (k + 1)) (us.drop (k + 1))) := by
  rw [List.drop_eq_getElem_cons h, List.drop_eq_getElem_cons h', consL]

theorem precL_step {ts us : List Ty} {k : Nat} (h : k < ts.length) (h' : k < us.length) : precL (ts.drop k) (us.drop k) = (prec ts[k] us[k] && precL (ts.drop (k + 1)) (us.drop (k + 1))) := by
  rw [List.drop_eq_getElem_cons h, List.drop_eq_getElem_cons h', precL]

theorem box_cells2 {w wr : World} {x y x' y' : Value} {T T' : TypeId} (h : Below ((w.alloc (Obj.cells #[x, y] T)).alloc (Obj.cells #[x', y'] T')).heap.size ((w.alloc (Obj.cells #[x, y] T)).alloc (Obj.cells #[x', y'] T')) wr) :
    wr.cell? ⟨w.heap.size, 0, none⟩ = some x ∧ wr.cell? ⟨w.heap.size, 1, none⟩ = some y ∧ wr.cell? ⟨w.heap.size + 1, 0, none⟩ = some x' ∧ wr.cell? ⟨w.heap.size + 1, 1, none⟩ = some y' := by
  have hs : (w.alloc (Obj.cells #[x, y] T)).heap.size = w.heap.size + 1 := by simp
  have h1 : wr.heap[w.heap.size + 1]? = some (Obj.cells #[x', y'] T') := by
    rw [h.block (w.heap.size + 1) (by simp), ← hs]
    exact alloc_new _ _
  have h0 := (h.block w.heap.size (by simp; omega)).trans ((Below.heap_alloc _ _ _ (by simp)).trans (alloc_new w _))
  exact ⟨by rw [cell_of_block h0]; rfl, by rw [cell_of_block h0]; rfl, by rw [cell_of_block h1]; rfl, by rw [cell_of_block h1]; rfl⟩

theorem alloc2 {w w' : World} {o o' : Obj} (h : Below ((w.alloc o).alloc o').heap.size ((w.alloc o).alloc o') w') : Below w.heap.size w w' := alloc1 (alloc1 h)

end Go.Proofs.Ytephhhnoobkbhaa
