/- Names and the zero type: the program's and the specification's tests. -/
import Derived.Test.YtbmlodikfmpfoaaDoorIdx
import Derived.Test.YtbmlodikfmpfoaaDoorMTo
namespace Go.Proofs.YtbmlodikfmpfoaaDoor
open Go.RowKit

theorem one_byte {s : ByteArray} (h : s.size = 1) : ∃ b, s = ⟨#[b]⟩ := by
  obtain ⟨⟨l⟩⟩ := s
  match l, h with
  | [b], _ => exact ⟨b, rfl⟩

theorem isNm_one (b : UInt8) : isNm ⟨#[b]⟩ = (decide (97 ≤ b.toNat) && decide (b.toNat ≤ 122)) := by
  have : (⟨#[b]⟩ : ByteArray).size = 1 := rfl
  simp [isNm, this]

theorem isNm_size {s : ByteArray} (h : s.size ≠ 1) : isNm s = false := by
  have : (s.size == 1) = false := by simpa using h
  simp [isNm, this]

set_option maxHeartbeats 400000 in
theorem isLetter_any (b : Nat) (w : World) : Calls Tryd.prog 130 #[.int .u8 (b : Int)] w fun e w' => e = .returned (.bool (decide (97 ≤ b) && decide (b ≤ 122))) ∧ w' = w := by
  by_cases h1 : 97 ≤ b
  · have h1' : (97 : Int) ≤ (b : Int) := by omega
    go_enter Tryd.func130, Tryd.ntmps130
    go_wp2_with fail
    go_ret
    exact ⟨ret_b (by simp [h1]; omega), rfl⟩
  · have h1' : ¬ (97 : Int) ≤ (b : Int) := by omega
    go_enter Tryd.func130, Tryd.ntmps130
    go_wp2_with fail
    go_ret
    exact ⟨ret_b (by simp), rfl⟩

theorem beq_zero (n : Nat) : ((n : Int) == 0) = (n == 0) := by
  rw [Bool.eq_iff_iff]
  simp

set_option maxHeartbeats 400000 in
theorem isName_any (s : ByteArray) (hm : s.size ≤ 9223372036854775807) (w : World) : Calls Tryd.prog 91 #[.string s] w fun e w' => e = .returned (.bool (isNm s)) ∧ w' = w := by
  by_cases h : s.size = 1
  · obtain ⟨b, rfl⟩ := one_byte h
    have HR := hid (isNm_one b)
    clear h hm
    go_enter Tryd.func91, Tryd.ntmps91
    go_wp2_with fail
    refine (isLetter_any b.toNat _).mono ?_
    rintro e w1 ⟨rfl, rfl⟩
    go_wp2_with fail
    go_ret
    exact ⟨ret_b HR.out.symm, rfl⟩
  · have HR := hid (isNm_size h)
    have h1 : ((s.size : Int) == 1) = false := by simp; omega
    go_enter Tryd.func91, Tryd.ntmps91
    go_wp2_with fail
    go_ret
    exact ⟨ret_b HR.out.symm, rfl⟩

set_option maxHeartbeats 400000 in
theorem l2Name_any (s : ByteArray) (hm : s.size ≤ 9223372036854775807) (w : World) : Calls Tryd.prog 88 #[.string s] w fun e w' => e = .returned (.bool (isNm s)) ∧ w' = w := by
  by_cases h : s.size = 1
  · obtain ⟨b, rfl⟩ := one_byte h
    have HR := hid (isNm_one b)
    clear h hm
    by_cases h1 : 97 ≤ b.toNat
    · have h1' : (97 : Int) ≤ (b.toNat : Int) := by omega
      go_enter Tryd.func88, Tryd.ntmps88
      go_wp2_with fail
      go_ret
      exact ⟨ret_b (by rw [HR.out]; simp [h1]; change (b.toNat : Int) ≤ 122 ↔ _; omega), rfl⟩
    · have h1' : ¬ (97 : Int) ≤ (b.toNat : Int) := by omega
      go_enter Tryd.func88, Tryd.ntmps88
      go_wp2_with fail
      go_ret
      exact ⟨ret_b (by rw [HR.out]; simp [h1]), rfl⟩
  · have HR := hid (isNm_size h)
    have h1 : ((s.size : Int) == 1) = false := by simp; omega
    go_enter Tryd.func88, Tryd.ntmps88
    go_wp2_with fail
    go_ret
    exact ⟨ret_b HR.out.symm, rfl⟩

set_option maxHeartbeats 400000 in
theorem isZeroType_any (t : Ty) (v : Value) (fp : List Nat) (w : World) (h : t.At w v fp) : Calls Tryd.prog 186 #[v] w fun e w' => e = .returned (.bool (noTy t)) ∧ Below w.heap.size w w' := by
  obtain ⟨k, ts, rfl⟩ := t.shape
  obtain ⟨s, rfl, hs⟩ := Ty.at_mk.1 h
  obtain ⟨a, cap, rfl⟩ := hs.shape
  by_cases hk : k = 0
  · subst hk
    go_enter Tryd.func186, Tryd.ntmps186
    go_wp2_with fail
    go_ret
    exact ⟨ret_b (by simp [noTy, beq_zero]), (Below.refl _ _).alloc (Nat.le_refl _) _⟩
  · have h1 : (k == 0) = false := by simpa using hk
    go_enter Tryd.func186, Tryd.ntmps186
    go_wp2_with fail
    go_ret
    exact ⟨ret_b (by simp [noTy, h1]), (Below.refl _ _).alloc (Nat.le_refl _) _⟩

set_option maxHeartbeats 400000 in
theorem l2None_any (t : Ty) (v : Value) (fp : List Nat) (w : World) (h : t.At w v fp) : Calls Tryd.prog 165 #[v] w fun e w' => e = .returned (.bool (noTy t)) ∧ Below w.heap.size w w' := by
  obtain ⟨k, ts, rfl⟩ := t.shape
  obtain ⟨s, rfl, hs⟩ := Ty.at_mk.1 h
  obtain ⟨a, cap, rfl⟩ := hs.shape
  by_cases hk : k = 0
  · subst hk
    go_enter Tryd.func165, Tryd.ntmps165
    go_wp2_with fail
    go_ret
    exact ⟨ret_b (by simp [noTy, beq_zero]), (Below.refl _ _).alloc (Nat.le_refl _) _⟩
  · have h1 : (k == 0) = false := by simpa using hk
    go_enter Tryd.func165, Tryd.ntmps165
    go_wp2_with fail
    go_ret
    exact ⟨ret_b (by simp [noTy, h1]), (Below.refl _ _).alloc (Nat.le_refl _) _⟩
end Go.Proofs.YtbmlodikfmpfoaaDoor
