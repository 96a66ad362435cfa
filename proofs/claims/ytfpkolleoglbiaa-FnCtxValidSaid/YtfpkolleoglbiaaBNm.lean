/- Names: the program's and the specification's tests. -/
import Derived.Test.YtfpkolleoglbiaaPkA
namespace Go.Proofs.Ytfpkolleoglbiaa
open Go.RowKit

theorem one_byte {s : ByteArray} (h : s.size = 1) : ∃ b, s = ⟨#[b]⟩ := by
  obtain ⟨⟨l⟩⟩ := s
  match l, h with
  | [b], _ => exact ⟨b, rfl⟩

theorem isNm_one (b : UInt8) : isNm ⟨#[b]⟩ = (decide (97 ≤ b.toNat) && decide (b.toNat ≤ 122)) := by
  have : (⟨#[b]⟩ : ByteArray).size = 1 := rfl
  simp [isNm, this]

theorem isNm_size {s : ByteArray} (h : s.size ≠ 1) : isNm s = false := by
  have : (s.size == 1) = false := by simpa using h
  simp [isNm, this]

set_option maxHeartbeats 400000 in
theorem isLetter_any (b : Nat) (w : World) : Calls Try.prog 18 #[.int .u8 (b : Int)] w fun e w' => e = .returned (.bool (decide (97 ≤ b) && decide (b ≤ 122))) ∧ w' = w := by
  by_cases h1 : 97 ≤ b
  · have h1' : (97 : Int) ≤ (b : Int) := by omega
    go_enter Try.func18, Try.ntmps18
    go_wp2_with fail
    go_ret
    exact ⟨ret_b (by simp [h1]; omega), rfl⟩
  · have h1' : ¬ (97 : Int) ≤ (b : Int) := by omega
    go_enter Try.func18, Try.ntmps18
    go_wp2_with fail
    go_ret
    exact ⟨ret_b (by simp), rfl⟩

theorem beq_zero (n : Nat) : ((n : Int) == 0) = (n == 0) := by
  rw [Bool.eq_iff_iff]
  simp

set_option maxHeartbeats 400000 in
theorem isName_any (s : ByteArray) (hm : s.size ≤ 9223372036854775807) (w : World) : Calls Try.prog 9 #[.string s] w fun e w' => e = .returned (.bool (isNm s)) ∧ w' = w := by
  by_cases h : s.size = 1
  · obtain ⟨b, rfl⟩ := one_byte h
    have HR := hid (isNm_one b)
    clear h hm
    go_enter Try.func9, Try.ntmps9
    go_wp2_with fail
    refine (isLetter_any b.toNat _).mono ?_
    rintro e w1 ⟨rfl, rfl⟩
    go_wp2_with fail
    go_ret
    exact ⟨ret_b HR.out.symm, rfl⟩
  · have HR := hid (isNm_size h)
    have h1 : ((s.size : Int) == 1) = false := by simp; omega
    go_enter Try.func9, Try.ntmps9
    go_wp2_with fail
    go_ret
    exact ⟨ret_b HR.out.symm, rfl⟩

set_option maxHeartbeats 400000 in
theorem l2Name_any (s : ByteArray) (hm : s.size ≤ 9223372036854775807) (w : World) : Calls Try.prog 11 #[.string s] w fun e w' => e = .returned (.bool (isNm s)) ∧ w' = w := by
  by_cases h : s.size = 1
  · obtain ⟨b, rfl⟩ := one_byte h
    have HR := hid (isNm_one b)
    clear h hm
    by_cases h1 : 97 ≤ b.toNat
    · have h1' : (97 : Int) ≤ (b.toNat : Int) := by omega
      go_enter Try.func11, Try.ntmps11
      go_wp2_with fail
      go_ret
      exact ⟨ret_b (by rw [HR.out]; simp [h1]; change (b.toNat : Int) ≤ 122 ↔ _; omega), rfl⟩
    · have h1' : ¬ (97 : Int) ≤ (b.toNat : Int) := by omega
      go_enter Try.func11, Try.ntmps11
      go_wp2_with fail
      go_ret
      exact ⟨ret_b (by rw [HR.out]; simp [h1]), rfl⟩
  · have HR := hid (isNm_size h)
    have h1 : ((s.size : Int) == 1) = false := by simp; omega
    go_enter Try.func11, Try.ntmps11
    go_wp2_with fail
    go_ret
    exact ⟨ret_b HR.out.symm, rfl⟩

end Go.Proofs.Ytfpkolleoglbiaa
