/- TermSame of the specification. -/
import Derived.StillTailTactics
import Derived.Test.YtffmpjcjmffdeaaDoorVPkB
import Derived.Test.YtffmpjcjmffdeaaDoorVPkA
namespace Go.Proofs.YtffmpjcjmffdeaaDoor
open Go.RowKit

mutual
def tmEq : Tm → Tm → Bool
  | .mk k nm num ty fr lb ts, .mk k' nm' num' ty' fr' lb' us => decide (k = k') && decide (nm = nm') && decide (num = num') && decide (lb = lb') && tyEq ty ty' && tyEq fr fr' && tmEqL ts us
def tmEqL : List Tm → List Tm → Bool
  | [], [] => true
  | t :: ts, u :: us => tmEq t u && tmEqL ts us
  | _, _ => false
end

mutual
theorem tmEq_refl : ∀ t, tmEq t t = true
  | .mk k nm num ty fr lb ts => by simp [tmEq, tyEq_refl, tmEqL_refl ts]
theorem tmEqL_refl : ∀ ts, tmEqL ts ts = true
  | [] => rfl
  | t :: ts => by simp [tmEqL, tmEq_refl t, tmEqL_refl ts]
end

mutual
theorem eq_of_tmEq : ∀ {t u : Tm}, tmEq t u = true → t = u
  | .mk k nm num ty fr lb ts, .mk k' nm' num' ty' fr' lb' us, h => by
    simp only [tmEq, Bool.and_eq_true, decide_eq_true_eq] at h
    obtain ⟨⟨⟨⟨⟨⟨rfl, rfl⟩, rfl⟩, rfl⟩, h1⟩, h2⟩, h3⟩ := h
    rw [eq_of_tyEq h1, eq_of_tyEq h2, eqL_of_tmEq h3]
theorem eqL_of_tmEq : ∀ {ts us : List Tm}, tmEqL ts us = true → ts = us
  | [], [], _ => rfl
  | [], _ :: _, h => by simp [tmEqL] at h
  | _ :: _, [], h => by simp [tmEqL] at h
  | t :: ts, u :: us, h => by
    simp only [tmEqL, Bool.and_eq_true] at h
    rw [eq_of_tmEq h.1, eqL_of_tmEq h.2]
end

theorem two_outMm {w wr : World} {o1 o2 : Obj} (h : Below ((w.alloc o1).alloc o2).heap.size ((w.alloc o1).alloc o2) wr) :
    wr.heap[w.heap.size]? = some o1 ∧ wr.heap[w.heap.size + 1]? = some o2 := by
  refine ⟨(h.block w.heap.size (by simp; omega)).trans ((Below.heap_alloc _ _ _ (by simp)).trans (alloc_new w _)), ?_⟩
  rw [h.block _ (by simp)]
  have := alloc_new (w.alloc o1) o2
  simpa using this

theorem nmList_ne {x y : ByteArray} (h : x ≠ y) : (x.toList == y.toList) = false := by
  rw [beq_eq_false_iff_ne]
  intro he
  rw [Lib.toList_data, Lib.toList_data] at he
  exact h (ByteArray.ext (Array.toList_inj.1 he))

end Go.Proofs.YtffmpjcjmffdeaaDoor
