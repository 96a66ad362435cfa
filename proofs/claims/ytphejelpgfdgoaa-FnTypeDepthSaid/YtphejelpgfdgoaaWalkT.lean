/- The program's walk over two types whose results are types. -/
import Derived.Test.YtphejelpgfdgoaaPkA
import Derived.Deep.RegionHeld3
namespace Go.Proofs.Ytphejelpgfdgoaa
open Go.RowKit

mutual
def wkT (ap : Ty → Ty → Ty) : Ty → Ty → Ty
  | .mk k ts, .mk k' us => if k ≠ k' ∨ k = 1 then ap (.mk k ts) (.mk k' us) else .mk k (wkTL ap ts us)
def wkTL (ap : Ty → Ty → Ty) : List Ty → List Ty → List Ty
  | t :: ts, u :: us => wkT ap t u :: wkTL ap ts us
  | _, _ => []
end

theorem wkTL_zip (ap : Ty → Ty → Ty) : ∀ ts us : List Ty, wkTL ap ts us = List.zipWith (wkT ap) ts us
  | t :: ts, u :: us => by simp only [wkTL, List.zipWith_cons_cons, wkTL_zip ap ts us]
  | [], _ => by simp only [wkTL, List.zipWith_nil_left]
  | _ :: _, [] => by simp only [wkTL, List.zipWith_nil_right]

/-- The function may be called by its value. -/
def CallOkT (fa : FuncId) : Prop := ∀ (args : Array Value) (w : World), (callFunc fa args).run Try.prog w = .ok (.enter fa args) w

def ApT (fa : FuncId) (ap : Ty → Ty → Ty) : Prop := ∀ (t u : Ty) (v1 v2 : Value) (f1 f2 : List Nat) (w : World), t.At w v1 f1 → u.At w v2 f2 → wf t → wf u →
  Calls Try.prog fa #[v1, v2] w (MadeT w (ap t u))

/-- The result's own cell is written last. -/
theorem keepR {w1 : World} {R B : Nat} {t : Ty} {v x y : Value} {fp : List Nat} (hat : t.At w1 v fp) (hf : Fresh B w1 fp) (hR : R < B) :
    t.At ((w1.setCell ⟨R, 0, none⟩ x).setCell ⟨R, 1, none⟩ y) v fp ∧ Fresh B ((w1.setCell ⟨R, 0, none⟩ x).setCell ⟨R, 1, none⟩ y) fp := by
  have hab := ((Above.refl B w1).setCell (p := ⟨R, 0, none⟩) hR x).setCell (p := ⟨R, 1, none⟩) hR y
  exact ⟨hat.above hab hf.ge, hf.above hab (Nat.le_refl _)⟩

/-- The cells of two arguments' boxes and of the result. -/
theorem boxes3 {w wr : World} {x y x' y' x2 y2 : Value} {T T' T2 : TypeId} (h : Below (((w.alloc (Obj.cells #[x, y] T)).alloc (Obj.cells #[x', y'] T')).alloc (Obj.cells #[x2, y2] T2)).heap.size (((w.alloc (Obj.cells #[x, y] T)).alloc (Obj.cells #[x', y'] T')).alloc (Obj.cells #[x2, y2] T2)) wr) :
    wr.cell? ⟨w.heap.size, 0, none⟩ = some x ∧ wr.cell? ⟨w.heap.size, 1, none⟩ = some y ∧ wr.cell? ⟨w.heap.size + 1, 0, none⟩ = some x' ∧ wr.cell? ⟨w.heap.size + 1, 1, none⟩ = some y' ∧
      wr.cell? ⟨w.heap.size + 1 + 1, 0, none⟩ = some x2 ∧ wr.cell? ⟨w.heap.size + 1 + 1, 1, none⟩ = some y2 ∧ ∀ o, wr.frozen? ⟨w.heap.size + 1 + 1, o, none⟩ = false := by
  have hs : (w.alloc (Obj.cells #[x, y] T)).heap.size = w.heap.size + 1 := by simp
  have hs2 : ((w.alloc (Obj.cells #[x, y] T)).alloc (Obj.cells #[x', y'] T')).heap.size = w.heap.size + 1 + 1 := by simp
  have h2 : wr.heap[w.heap.size + 1 + 1]? = some (Obj.cells #[x2, y2] T2) := by
    rw [h.block (w.heap.size + 1 + 1) (by simp), ← hs2]
    exact alloc_new _ _
  have h1 : wr.heap[w.heap.size + 1]? = some (Obj.cells #[x', y'] T') := by
    rw [h.block (w.heap.size + 1) (by simp), Below.heap_alloc _ _ _ (by simp), ← hs]
    exact alloc_new _ _
  have h0 : wr.heap[w.heap.size]? = some (Obj.cells #[x, y] T) := by
    rw [h.block w.heap.size (by simp; omega), Below.heap_alloc _ _ _ (by simp; omega), Below.heap_alloc _ _ _ (by simp)]
    exact alloc_new _ _
  exact ⟨by rw [cell_of_block h0]; rfl, by rw [cell_of_block h0]; rfl, by rw [cell_of_block h1]; rfl, by rw [cell_of_block h1]; rfl, by rw [cell_of_block h2]; rfl, by rw [cell_of_block h2]; rfl, fun o => frozen_of_block h2⟩

theorem alloc3 {w w' : World} {o o' o2 : Obj} (h : Below (((w.alloc o).alloc o').alloc o2).heap.size (((w.alloc o).alloc o').alloc o2) w') : Below w.heap.size w w' := alloc1 (alloc1 (alloc1 h))

theorem Try.underTys2 : Try.prog.underlying 23 = some (.slice 25) := by kernel_rfl
theorem Try.infoTy2 : (Try.prog.info? 25).map (fun i => (i.zero, i.size, i.bytes)) = some (some (.agg #[.int .i64 0, .slice none 0 0]), 2, 32) := by kernel_rfl

theorem wf_small2 {k : Int} {ts : List Ty} (h : wf (.mk k ts)) : ts.length ≤ 2 := by
  have := (wf_mk h).1
  unfold kidsOf at this
  split at this
  · omega
  · split at this <;> omega

theorem zipT_take {ap : Ty → Ty → Ty} {ts us : List Ty} {j : Nat} (h : j < ts.length) (h' : j < us.length) : (wkTL ap ts us).take (j + 1) = (wkTL ap ts us).take j ++ [wkT ap ts[j] us[j]] := by
  rw [wkTL_zip, List.take_succ_eq_append_getElem (by simp; omega)]
  simp

end Go.Proofs.Ytphejelpgfdgoaa
