/- Ground types, plainly. -/
import Derived.Test.YtelbpgdlcnnabaaDlP
import Derived.Test.YtelbpgdlcnnabaaGround2
namespace Go.Proofs.Ytelbpgdlcnnabaa
open Go.RowKit

theorem gndOf_cnt (t : Ty) : (gndOf t).cnt ≤ t.cnt := by
  unfold gndOf
  split
  · exact grd_cnt t
  · simp [Ty.cnt, cntL]

/-- A valid type that is not unknown: its kind, and its ground type. -/
theorem gnd_cases {t : Ty} (h : gndOk t = true) : vld t = true ∧ kindT t ≠ 1 ∧ gndOf t = grd t ∧ vld (grd t) = true ∧ kindT (grd t) = kindT t ∧ prec t (grd t) = true ∧ grd (grd t) = grd t := by
  have h0 := h
  simp only [gndOk, Bool.and_eq_true, Bool.not_eq_true', beq_eq_false_iff_ne, ne_eq] at h
  obtain ⟨hv, hk1⟩ := h
  refine ⟨hv, hk1, by unfold gndOf; rw [if_pos h0], ?_⟩
  obtain ⟨k0, ts0, rfl⟩ := t.shape
  have hs : shp 4 (.mk k0 ts0) = true := hv
  rcases shp_cases hs with ⟨rfl, hk⟩ | ⟨x, y, rfl, hk, hx, hy⟩
  · refine ⟨hv, rfl, prec_leaf, rfl⟩
  · have hau := shp_any8 hx
    refine ⟨?_, rfl, ?_, rfl⟩
    · exact shp_two8 hk hau hau
    · show prec (.mk _ [x, y]) (.mk _ [.mk 1 [], .mk 1 []]) = true
      rw [prec_two hk, prec_any rfl, prec_any rfl]
      rfl

theorem gnd_pure (t : Ty) (h : gndOk t = true) : precOf t (gndOf t) = true ∧ gndOk (gndOf t) = true ∧ gndOf (gndOf t) = gndOf t := by
  obtain ⟨hv, hk, he, hg, hkk, hp, hgg⟩ := gnd_cases h
  have hok : gndOk (grd t) = true := by
    simp only [gndOk, hg, hkk, Bool.true_and, Bool.not_eq_true', beq_eq_false_iff_ne, ne_eq]
    exact hk
  rw [he]
  refine ⟨by simp only [precOf, hv, hg, hp]; rfl, hok, ?_⟩
  unfold gndOf
  rw [if_pos hok, hgg]

theorem gnd_cons (t u : Ty) (ht : gndOk t = true) (hu : gndOk u = true) : consOf t (gndOf u) = tyEq (gndOf t) (gndOf u) := by
  obtain ⟨hv, hk, he, hg, hkk, hp, hgg⟩ := gnd_cases ht
  obtain ⟨hv', hk', he', hg', hkk', hp', hgg'⟩ := gnd_cases hu
  rw [he, he']
  simp only [consOf, hv, hg', Bool.true_and]
  by_cases hab : kindT t = kindT u
  · have e : grd t = grd u := by
      have hs : shp 4 t = true := hv
      have hs' : shp 4 u = true := hv'
      cases sameK_of hs hs' hk hab with
      | leaf k hk => rfl
      | two k x y x' y' hk hx hy hx' hy' => rfl
    rw [← e, tyEq_refl]
    exact prec_cons 4 t (grd t) hv hg hp
  · have hk2 : kindT (grd u) ≠ 1 := by rw [hkk']; exact hk'
    rw [cons_diff hk hk2 (by rw [hkk']; exact hab)]
    symm
    refine tyEq_ne fun e => hab ?_
    rw [← hkk, ← hkk', e]
end Go.Proofs.Ytelbpgdlcnnabaa
