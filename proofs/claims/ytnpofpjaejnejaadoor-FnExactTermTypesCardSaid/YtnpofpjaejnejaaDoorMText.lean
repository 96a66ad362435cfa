/- The laws' own helper markText: the text of a mark. -/
import Derived.Test.YtnpofpjaejnejaaDoorTy
import Derived.LoopTactic
import Derived.Laws.IdiomStrings
namespace Go.Proofs.YtnpofpjaejnejaaDoor
open Go.RowKit

/-- Decimal digits ahead of a text. -/
def dig (k : Nat) (acc : ByteArray) : ByteArray := if _h : k = 0 then acc else dig (k / 10) (⟨#[UInt8.ofNat (48 + k % 10)]⟩ ++ acc)
termination_by k
decreasing_by omega

theorem dig_zero (acc : ByteArray) : dig 0 acc = acc := by rw [dig, dif_pos rfl]
theorem dig_pos {k : Nat} (h : 0 < k) (acc : ByteArray) : dig k acc = dig (k / 10) (⟨#[UInt8.ofNat (48 + k % 10)]⟩ ++ acc) := by
  rw [dig, dif_neg (by omega)]

/-- The text of a mark. -/
def mtx (m : Nat) : ByteArray := ⟨#[109]⟩ ++ dig m ⟨#[]⟩

theorem size_small {n m s : Nat} (hn : 0 < n) (hm : m ≤ 2147483648) (h : n * 10 ^ s ≤ m) : s ≤ 9 := by
  by_cases hs : s ≤ 9
  · exact hs
  · have h1 : 10 ^ 10 ≤ 10 ^ s := Nat.pow_le_pow_right (by omega) (by omega)
    have h2 : 1 * 10 ^ s ≤ n * 10 ^ s := Nat.mul_le_mul_right _ hn
    have h3 : (10 : Nat) ^ 10 = 10000000000 := by decide
    omega

theorem pow_step {n m s : Nat} (h : n * 10 ^ s ≤ m) : n / 10 * 10 ^ (1 + s) ≤ m := by
  have h1 : n / 10 * 10 ≤ n := Nat.div_mul_le_self n 10
  have h2 : n / 10 * 10 * 10 ^ s ≤ n * 10 ^ s := Nat.mul_le_mul_right _ h1
  rw [Nat.pow_add, Nat.pow_one, ← Nat.mul_assoc]
  omega

theorem size_one (b : UInt8) (acc : ByteArray) : ((⟨#[b]⟩ : ByteArray) ++ acc).size = 1 + acc.size := by
  rw [ByteArray.size_append]
  rfl

theorem conv_digit (n : Nat) (wr : World) : (convert 129 9 (.slice (some ⟨wr.heap.size, 0, none⟩) 1 1)).run Tryd.prog (wr.alloc (Obj.cells #[.int .u8 (48 + (n : Int) % 10)] 5)) =
    .ok (.string ⟨#[UInt8.ofNat (48 + n % 10)]⟩) (wr.alloc (Obj.cells #[.int .u8 (48 + (n : Int) % 10)] 5)) := by
  refine run_convert_bytes_back _ _ _ 5 ⟨wr.heap.size, 0, none⟩ 1 [UInt8.ofNat (48 + n % 10)] Tryd.underlying129 Tryd.underlying5 Tryd.underlying9 ?_
  intro j hj
  have hj0 : j = 0 := by simpa using hj
  subst hj0
  have e : ((UInt8.ofNat (48 + n % 10)).toNat : Int) = 48 + (n : Int) % 10 := by
    rw [UInt8.toNat_ofNat_of_lt' (by have : UInt8.size = 256 := rfl; omega)]
    omega
  show (wr.alloc _).cell? ⟨wr.heap.size, 0 + 0, none⟩ = _
  rw [cell_of_block (alloc_new wr _)]
  simp only [List.getElem_cons_zero]
  rw [e]
  rfl

set_option maxRecDepth 100000 in
set_option maxHeartbeats 1000000 in
theorem markText_any (m : Nat) (h0 : 0 < m) (h1 : m ≤ 2147483648) (w : World) : Calls Tryd.prog 82 #[.int .i64 (m : Int)] w fun e w' => e = .returned (.string (mtx m)) ∧ (mtx m).size ≤ 11 ∧ Below w.heap.size w w' := by
  have hpos : ¬ (m : Int) ≤ 0 := by omega
  go_enter Tryd.func82, Tryd.ntmps82
  go_wp2_with fail
  go_loopw [0, 3] (fun k s wr => ∃ (n : Nat) (acc : ByteArray), n ≤ m ∧ k = .int .i64 (n : Int) ∧ s = .string acc ∧ acc.size ≤ 10 ∧ n * 10 ^ acc.size ≤ m ∧ dig n acc = dig m ⟨#[]⟩ ∧ Below w.heap.size w wr) (fun k _ _ => (intOf k).toNat)
  case atStart => exact ⟨m, ⟨#[]⟩, Nat.le_refl _, rfl, rfl, by decide, by simp [show (⟨#[]⟩ : ByteArray).size = 0 from rfl], rfl, Below.refl _ _⟩
  case round =>
    obtain ⟨n, acc, hn, rfl, rfl, hs1, hs2, hd, hb⟩ := hrel
    have HD := hid hd
    clear hd
    by_cases hz : 0 < n
    · have hz1 : (n : Int) > 0 := by omega
      have hmod : 0 ≤ (n : Int) % 10 ∧ (n : Int) % 10 ≤ 9 := by omega
      obtain ⟨hm0, hm1⟩ := hmod
      have hcv := conv_digit n wr
      have hs3 := size_small hz (by omega) hs2
      have HS2 := hid hs2
      clear hs2
      go_wp2_with fail
      go_roundw
      case rel => exact ⟨n / 10, _, by omega, by go_num, rfl, by rw [size_one]; omega, by rw [size_one]; exact pow_step HS2.out, by rw [← HD.out, dig_pos hz]; simp, hb.alloc (by have := hb.size; omega) _⟩
      case measure => simp [intOf]; omega
    · have hn0 : n = 0 := by omega
      have hz1 : ¬ (n : Int) > 0 := by omega
      have HZ := hid hn0
      clear hn0
      go_wp2_with fail
      go_ret
      exact ⟨by rw [mtx, ← HD.out, HZ.out, dig_zero]; rfl, by rw [mtx, ← HD.out, HZ.out, dig_zero, size_one]; omega, hb⟩

theorem markText_at (m : Nat) (n : Int) (hn : n = (m : Int)) (h0 : 0 < m) (h1 : m ≤ 2147483648) (w : World) : Calls Tryd.prog 82 #[.int .i64 n] w fun e w' => e = .returned (.string (mtx m)) ∧ (mtx m).size ≤ 11 ∧ Below w.heap.size w w' := by
  subst hn
  exact markText_any m h0 h1 w
end Go.Proofs.YtnpofpjaejnejaaDoor
