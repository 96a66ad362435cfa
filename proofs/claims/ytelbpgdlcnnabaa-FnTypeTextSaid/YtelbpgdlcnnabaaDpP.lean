/- Precision, depth and the number of unknowns: plainly. -/
import Derived.Test.YtelbpgdlcnnabaaDrP
import Derived.Test.YtelbpgdlcnnabaaBlB
import Derived.Test.YtelbpgdlcnnabaaRel
import Derived.Test.YtelbpgdlcnnabaaTsm
namespace Go.Proofs.Ytelbpgdlcnnabaa
open Go.RowKit

theorem dep_shp : ∀ (d : Nat) (t : Ty), shp d t = true → dep t ≤ d
  | 0, t, h => by simp [shp] at h
  | d + 1, .mk k ts, h => by
    simp only [shp, Bool.and_eq_true, beq_iff_eq, List.all_eq_true] at h
    have : ∀ us : List Ty, (∀ u ∈ us, shp d u = true) → depL us ≤ d := by
      intro us
      induction us with
      | nil => intro _; simp [depL]
      | cons u us ih =>
        intro hu
        have h1 := dep_shp d u (hu u (by simp))
        have h2 := ih (fun v hv => hu v (by simp [hv]))
        simp only [depL]
        omega
    have := this ts h.2
    simp only [dep]
    omega

theorem any_only9 {d : Nat} {a : Ty} (ha : shp (d + 1) a = true) (h : kindT a = 1) : a = .mk 1 [] := by
  obtain ⟨k, ts, rfl⟩ := a.shape
  have hk : k = 1 := h
  subst hk
  simp only [shp, Bool.and_eq_true, beq_iff_eq] at ha
  have h0 : kidsOf 1 = 0 := by decide
  have : ts.length = 0 := by omega
  rw [List.length_eq_zero_iff.1 this]

theorem prec_dep : ∀ (d : Nat) (a b : Ty), shp d a = true → shp d b = true → prec a b = true → dep b ≤ dep a ∧ (cntAny b = 0 → a = b)
  | 0, a, _, ha, _, _ => by simp [shp] at ha
  | d + 1, a, b, ha, hb, h => by
    have hone : kindT b = 1 → dep b ≤ dep a ∧ (cntAny b = 0 → a = b) := fun hk => by
      rw [any_only9 hb hk]
      have := (dep_bd a).1
      refine ⟨by simp only [dep, depL]; omega, fun h0 => ?_⟩
      simp [cntAny] at h0
    rcases rel_cases ha hb with h1 | h1 | ⟨h1, h2, h3⟩ | ⟨h1, h2, hs⟩
    · exact hone (by rcases prec_kind h with e | e <;> omega)
    · exact hone h1
    · rw [prec_diff h2 h3] at h
      cases h
    · cases hs with
      | leaf k hk => exact ⟨Int.le_refl _, fun _ => rfl⟩
      | two k x y x' y' hk hx hy hx' hy' =>
        rw [prec_two hk, Bool.and_eq_true] at h
        obtain ⟨a1, a2⟩ := prec_dep d _ _ hx hx' h.1
        obtain ⟨b1, b2⟩ := prec_dep d _ _ hy hy' h.2
        have n1 := (cntAny_bd x').1
        have n2 := (cntAny_bd y').1
        have hk1 : k ≠ 1 := by omega
        refine ⟨by simp only [dep, depL]; omega, fun h0 => ?_⟩
        simp only [cntAny, cntAnyL, if_neg hk1] at h0
        rw [a2 (by omega), b2 (by omega)]

end Go.Proofs.Ytelbpgdlcnnabaa
