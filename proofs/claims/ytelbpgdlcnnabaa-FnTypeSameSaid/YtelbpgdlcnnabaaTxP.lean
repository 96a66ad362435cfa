/- The texts of types, plainly: valid types have different texts. -/
import Derived.Test.YtelbpgdlcnnabaaDlP
import Derived.Test.YtelbpgdlcnnabaaTx0
namespace Go.Proofs.Ytelbpgdlcnnabaa
open Go.RowKit

theorem sgn_inj {k k' : Int} (h : 1 ≤ k ∧ k ≤ 5) (h' : 1 ≤ k' ∧ k' ≤ 5) (e : sgn k = sgn k') : k = k' := by
  have c : k = 1 ∨ k = 2 ∨ k = 3 ∨ k = 4 ∨ k = 5 := by omega
  have c' : k' = 1 ∨ k' = 2 ∨ k' = 3 ∨ k' = 4 ∨ k' = 5 := by omega
  rcases c with rfl | rfl | rfl | rfl | rfl <;> rcases c' with rfl | rfl | rfl | rfl | rfl <;> first | rfl | (exact absurd e (by decide))

theorem sgn_not40 {k : Int} : sgn k ≠ 40 := by
  unfold sgn
  repeat' split
  all_goals decide

theorem txt_leaf {d : Nat} {k : Int} : txt (d + 1) (.mk k []) = [sgn k] := by simp [txt]
theorem txt_two {d : Nat} {k : Int} {x y : Ty} : txt (d + 1) (.mk k [x, y]) = 40 :: (txt d x ++ (sgn k :: (txt d y ++ [41]))) := by simp [txt]

/-- A text says where it ends, and what it is the text of. -/
theorem txt_inj : ∀ (d : Nat) (a b : Ty) (r s : List UInt8), shp d a = true → shp d b = true → txt d a ++ r = txt d b ++ s → a = b ∧ r = s
  | 0, a, _, _, _, ha, _, _ => by simp [shp] at ha
  | d + 1, .mk k ts, .mk k' us, r, s, ha, hb, h => by
    rcases shp_cases ha with ⟨rfl, hk⟩ | ⟨x, y, rfl, hk, hx, hy⟩
    · rcases shp_cases hb with ⟨rfl, hk'⟩ | ⟨x', y', rfl, hk', hx', hy'⟩
      · rw [txt_leaf, txt_leaf] at h
        simp only [List.cons_append, List.nil_append, List.cons.injEq] at h
        rw [sgn_inj (by omega) (by omega) h.1]
        exact ⟨rfl, h.2⟩
      · rw [txt_leaf, txt_two] at h
        simp only [List.cons_append, List.nil_append, List.cons.injEq] at h
        exact absurd h.1 sgn_not40
    · rcases shp_cases hb with ⟨rfl, hk'⟩ | ⟨x', y', rfl, hk', hx', hy'⟩
      · rw [txt_two, txt_leaf] at h
        simp only [List.cons_append, List.nil_append, List.cons.injEq] at h
        exact absurd h.1.symm sgn_not40
      · rw [txt_two, txt_two] at h
        simp only [List.cons_append, List.append_assoc, List.cons.injEq, true_and] at h
        obtain ⟨e1, h1⟩ := txt_inj d x x' _ _ hx hx' h
        simp only [List.cons.injEq] at h1
        obtain ⟨e2, h2⟩ := txt_inj d y y' _ _ hy hy' h1.2
        simp only [List.nil_append, List.cons.injEq, true_and] at h2
        rw [e1, e2, sgn_inj (by omega) (by omega) h1.1]
        exact ⟨rfl, h2⟩

theorem txt_ne (d : Nat) (a : Ty) (h : shp d a = true) : txt d a ≠ [] := by
  cases d with
  | zero => simp [shp] at h
  | succ d =>
    obtain ⟨k, ts, rfl⟩ := a.shape
    rcases shp_cases h with ⟨rfl, hk⟩ | ⟨x, y, rfl, hk, hx, hy⟩
    · rw [txt_leaf]; simp
    · rw [txt_two]; simp

theorem fmt_nil (a : Ty) (h : vld a = false) : (⟨(fmtT a).toArray⟩ : ByteArray).toList = [] := by
  rw [Lib.toList_data]
  simp [fmtT, h]

theorem fmt_ne (a : Ty) (h : vld a = true) : (⟨(fmtT a).toArray⟩ : ByteArray).toList ≠ [] := by
  rw [Lib.toList_data]
  simp only [fmtT, h, if_true]
  exact txt_ne 4 a h

theorem fmt_eq (a b : Ty) (ha : vld a = true) (hb : vld b = true) : ((⟨(fmtT a).toArray⟩ : ByteArray).toList == (⟨(fmtT b).toArray⟩ : ByteArray).toList) = tyEq a b := by
  rw [Lib.toList_data, Lib.toList_data]
  simp only [fmtT, ha, hb, if_true]
  rw [Bool.eq_iff_iff, beq_iff_eq]
  constructor
  · intro h
    rw [(txt_inj 4 a b [] [] ha hb (by simpa using h)).1, tyEq_refl]
  · intro h
    rw [eq_of_tyEq h]
end Go.Proofs.Ytelbpgdlcnnabaa
