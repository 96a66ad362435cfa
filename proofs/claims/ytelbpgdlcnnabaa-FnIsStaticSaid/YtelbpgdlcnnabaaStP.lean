/- Static types, plainly. -/
import Derived.Test.YtelbpgdlcnnabaaDlP
import Derived.Test.YtelbpgdlcnnabaaAny
import Derived.Test.YtelbpgdlcnnabaaStat
namespace Go.Proofs.Ytelbpgdlcnnabaa
open Go.RowKit

theorem sta_pure (t : Ty) (h : staOf t = true) : vld t = true ∧ anyOf t = 0 := by
  simp only [staOf, Bool.and_eq_true, beq_iff_eq] at h
  refine ⟨h.1, ?_⟩
  unfold anyOf
  rw [if_pos h.1, h.2]

theorem sta_not (t : Ty) (h : staOf t = false) (hv : vld t = true) : (anyOf t == (0 : Int)) = false := by
  rw [beq_eq_false_iff_ne]
  intro h0
  unfold anyOf at h0
  rw [if_pos hv] at h0
  simp only [staOf, hv, Bool.true_and, beq_eq_false_iff_ne, ne_eq] at h
  exact h h0

theorem sta_min (a t : Ty) (hp : precOf a t = true) (h : staOf t = true) : tyEq a t = true := by
  simp only [precOf, Bool.and_eq_true] at hp
  simp only [staOf, Bool.and_eq_true, beq_iff_eq] at h
  rw [(prec_dep 4 a t hp.1.1 hp.1.2 hp.2).2 h.2, tyEq_refl]
end Go.Proofs.Ytelbpgdlcnnabaa
