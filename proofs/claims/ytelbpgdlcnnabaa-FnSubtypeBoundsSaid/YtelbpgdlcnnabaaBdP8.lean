/- The unknown type is an extreme; static subtypes are equal: plainly. -/
import Derived.Test.YtelbpgdlcnnabaaDlP
import Derived.Test.YtelbpgdlcnnabaaStat
namespace Go.Proofs.Ytelbpgdlcnnabaa
open Go.RowKit

theorem sub_unk2 (a : Ty) (h : vld a = true) : subOf 1 a (.mk 1 []) = true := by
  have hu : vld (.mk 1 []) = true := by decide
  simp only [subOf, h, hu, Bool.true_and]
  by_cases h1 : kindT a = 1
  · rw [sub_any1 _ _ _ _ h1]; rfl
  · rw [sub_any2 _ _ _ _ h1 rfl]; rfl

theorem sub_unk3 (a : Ty) (h : vld a = true) : subOf (-1) (.mk 1 []) a = true := by
  have hu : vld (.mk 1 []) = true := by decide
  simp only [subOf, h, hu, Bool.true_and]
  rw [sub_any1 _ _ _ _ rfl]
  simp

theorem sub_unk1 (a : Ty) (h : vld a = true) : subOf 1 (.mk 1 []) a = tyEq (.mk 1 []) a := by
  have hu : vld (.mk 1 []) = true := by decide
  simp only [subOf, h, hu, Bool.true_and]
  rw [sub_any1 _ _ _ _ rfl]
  by_cases h1 : kindT a = 1
  · rw [any_only9 (d := 3) h h1, tyEq_refl]; rfl
  · have e : (kindT a == 1) = false := by simpa using h1
    rw [e, tyEq_ne (fun he => h1 (by rw [← he]; rfl))]
    rfl

/-- Between static types only equality is left. -/
theorem sub_static : ∀ (d : Nat) (a b : Ty), shp d a = true → shp d b = true → cntAny a = 0 → cntAny b = 0 → sub d 0 a b = tyEq a b
  | 0, a, _, ha, _, _, _ => by simp [shp] at ha
  | d + 1, a, b, ha, hb, h0, h0' => by
    have ka : kindT a ≠ 1 := fun h => by rw [any_only9 ha h] at h0; simp [cntAny] at h0
    have kb : kindT b ≠ 1 := fun h => by rw [any_only9 hb h] at h0'; simp [cntAny] at h0'
    by_cases hab : kindT a = kindT b
    · cases sameK_of ha hb ka hab with
      | leaf k hk =>
        rw [sub_same _ _ _ _ ka kb rfl, tyEq_refl]
        simp only [kidsT8, subS]
      | two k x y x' y' hk hx hy hx' hy' =>
        have hk1 : ¬ k = 1 := by omega
        simp only [cntAny, cntAnyL, if_neg hk1] at h0 h0'
        have n1 := (cntAny_bd x).1
        have n2 := (cntAny_bd y).1
        have n3 := (cntAny_bd x').1
        have n4 := (cntAny_bd y').1
        rw [sub_same _ _ _ _ ka kb rfl]
        simp only [kindT_mk, kids_mk, subS_two, Int.neg_zero]
        rw [sub_static d x x' hx hx' (by omega) (by omega), sub_static d x' x hx' hx (by omega) (by omega), sub_static d y y' hy hy' (by omega) (by omega), tyEq_comm x' x]
        simp [tyEq, tyEqL]
    · rw [sub_diff _ _ _ _ ka kb hab, tyEq_ne (fun he => hab (by rw [he]))]

theorem sub_sta (a b : Ty) (ha : staOf a = true) (hb : staOf b = true) : subOf 0 a b = tyEq a b := by
  simp only [staOf, Bool.and_eq_true, beq_iff_eq] at ha hb
  simp only [subOf, ha.1, hb.1, Bool.true_and]
  exact sub_static 4 a b ha.1 hb.1 ha.2 hb.2
end Go.Proofs.Ytelbpgdlcnnabaa
