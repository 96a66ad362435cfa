/- The document's chapter 1 as plain functions on trees. -/
import Derived.Test.YtephhhnoobkbhaaTy
namespace Go.Proofs.Ytephhhnoobkbhaa
open Go.RowKit

/-- How many operands a kind has; -1: there is no such kind. -/
def kidsOf (k : Int) : Int := if k = 1 ∨ k = 2 ∨ k = 3 then 0 else if k = 4 ∨ k = 5 then 2 else -1

/-- Well formed, down to a depth. -/
def shp : Nat → Ty → Bool
  | 0, _ => false
  | d + 1, .mk k ts => (kidsOf k == (ts.length : Int)) && ts.all (shp d)

mutual
def cntAny : Ty → Int
  | .mk k ts => if k = 1 then 1 else cntAnyL ts
def cntAnyL : List Ty → Int
  | [] => 0
  | t :: ts => cntAny t + cntAnyL ts
end

mutual
def dep : Ty → Int
  | .mk _ ts => depL ts + 1
def depL : List Ty → Int
  | [] => 0
  | t :: ts => max (dep t) (depL ts)
end

mutual
theorem cntAny_bd : ∀ t : Ty, 0 ≤ cntAny t ∧ cntAny t ≤ t.cnt + 1
  | .mk k ts => by
    have := cntAnyL_bd ts
    simp only [cntAny, Ty.cnt]
    split <;> omega
theorem cntAnyL_bd : ∀ ts : List Ty, 0 ≤ cntAnyL ts ∧ cntAnyL ts ≤ cntL ts + ts.length
  | [] => by simp [cntAnyL]
  | t :: ts => by
    have h1 := cntAny_bd t
    have h2 := cntAnyL_bd ts
    simp only [cntAnyL, cntL, List.length_cons]
    omega
end

mutual
theorem dep_bd : ∀ t : Ty, 1 ≤ dep t ∧ dep t ≤ t.cnt + 1
  | .mk k ts => by
    have := depL_bd ts
    simp only [dep, Ty.cnt]
    omega
theorem depL_bd : ∀ ts : List Ty, 0 ≤ depL ts ∧ depL ts ≤ cntL ts + ts.length
  | [] => by simp [depL]
  | t :: ts => by
    have h1 := dep_bd t
    have h2 := depL_bd ts
    simp only [depL, cntL, List.length_cons]
    omega
end

theorem cntAnyL_snoc : ∀ (ts : List Ty) (t : Ty), cntAnyL (ts ++ [t]) = cntAnyL ts + cntAny t
  | [], t => by simp [cntAnyL]
  | u :: ts, t => by simp only [List.cons_append, cntAnyL, cntAnyL_snoc ts t]; omega

theorem depL_snoc : ∀ (ts : List Ty) (t : Ty), depL (ts ++ [t]) = max (depL ts) (dep t)
  | [], t => by
    have := (dep_bd t).1
    simp only [List.nil_append, depL]
    omega
  | u :: ts, t => by
    simp only [List.cons_append, depL, depL_snoc ts t]
    omega

theorem cntL_append : ∀ ts us : List Ty, cntL (ts ++ us) = cntL ts + cntL us
  | [], us => by simp [cntL]
  | t :: ts, us => by simp only [List.cons_append, cntL, cntL_append ts us]; omega

theorem cntL_take (ts : List Ty) (k : Nat) : cntL (ts.take k) ≤ cntL ts := by
  have := cntL_append (ts.take k) (ts.drop k)
  rw [List.take_append_drop] at this
  omega

theorem take_succ {ts : List Ty} {k : Nat} (h : k < ts.length) : ts.take (k + 1) = ts.take k ++ [ts[k]] := by
  rw [List.take_succ_eq_append_getElem h]

theorem shp_all {d : Nat} {ts : List Ty} {k : Nat} (h : k < ts.length) : (ts.drop k).all (shp d) = (shp d ts[k] && (ts.drop (k + 1)).all (shp d)) := by
  rw [List.drop_eq_getElem_cons h, List.all_cons]

/-- The cells of a struct of two that has just been boxed. -/
theorem box_cells {w wr : World} {x y : Value} {T : TypeId} (h : Below (w.alloc (Obj.cells #[x, y] T)).heap.size (w.alloc (Obj.cells #[x, y] T)) wr) :
    wr.cell? ⟨w.heap.size, 0, none⟩ = some x ∧ wr.cell? ⟨w.heap.size, 1, none⟩ = some y := by
  have hb := (h.block w.heap.size (by simp)).trans (alloc_new w _)
  exact ⟨by rw [cell_of_block hb]; rfl, by rw [cell_of_block hb]; rfl⟩

end Go.Proofs.Ytephhhnoobkbhaa
