/- Sets of names: bits of a number, and ascending strings. -/
import Derived.Test.YtbmlodikfmpfoaaDoorTx0
import Derived.Laws.BitsAll
import Derived.Laws.Shifts
namespace Go.Proofs.YtbmlodikfmpfoaaDoor
open Go.RowKit

/-- The letters of a set, from the i-th on. -/
def lstR (m : Nat) : Nat → Nat → List UInt8
  | _, 0 => []
  | i, n + 1 => if m.testBit i then (97 + i).toUInt8 :: lstR m (i + 1) n else lstR m (i + 1) n
/-- The letters of a set in ascending order. -/
def lst (m : Nat) : List UInt8 := lstR m 0 26

/-- A letter added to an ascending list. -/
def addL : List UInt8 → UInt8 → List UInt8
  | [], c => [c]
  | x :: xs, c => if x < c then x :: addL xs c else if x = c then x :: xs else c :: x :: xs

theorem lstR_len (m : Nat) : ∀ n i, (lstR m i n).length ≤ n
  | 0, _ => by simp [lstR]
  | n + 1, i => by
    have := lstR_len m n (i + 1)
    simp only [lstR]
    split
    · simp; omega
    · omega

theorem lst_len (m : Nat) : (lst m).length ≤ 26 := lstR_len m 26 0

theorem fr_u8 {i : Nat} (h : i < 256) : i.toUInt8.toNat = i := by
  simp only [Nat.toUInt8, UInt8.toNat_ofNat']
  omega

theorem lstR_ge (m : Nat) : ∀ n i, i + n ≤ 26 → ∀ x ∈ lstR m i n, 97 + i ≤ x.toNat
  | 0, _, _, x, hx => by simp [lstR] at hx
  | n + 1, i, h, x, hx => by
    have hr := lstR_ge m n (i + 1) (by omega)
    simp only [lstR] at hx
    split at hx
    · rcases List.mem_cons.1 hx with rfl | hx
      · rw [fr_u8 (by omega)]; omega
      · have := hr x hx; omega
    · have := hr x hx; omega

theorem lstR_mem (m j : Nat) : ∀ n i, i + n ≤ 26 → j < 26 → ((97 + j).toUInt8 ∈ lstR m i n ↔ i ≤ j ∧ j < i + n ∧ m.testBit j = true)
  | 0, i, _, _ => by simp [lstR]; omega
  | n + 1, i, h, hj => by
    have ih := lstR_mem m j n (i + 1) (by omega) hj
    have he : ((97 + j).toUInt8 = (97 + i).toUInt8) ↔ j = i := by
      constructor
      · intro e
        have := congrArg UInt8.toNat e
        rw [fr_u8 (by omega), fr_u8 (by omega)] at this
        omega
      · rintro rfl; rfl
    simp only [lstR]
    by_cases hij : j = i
    · subst hij
      split
      · rename_i hb; simp [hb]
      · rename_i hb; rw [ih]; simp [hb]
    · split
      · rw [List.mem_cons, ih, he]
        constructor
        · rintro (h | h)
          · exact absurd h hij
          · exact ⟨by omega, by omega, h.2.2⟩
        · rintro ⟨h1, h2, h3⟩
          exact .inr ⟨by omega, by omega, h3⟩
      · rw [ih]
        constructor
        · rintro ⟨h1, h2, h3⟩; exact ⟨by omega, by omega, h3⟩
        · rintro ⟨h1, h2, h3⟩; exact ⟨by omega, by omega, h3⟩

theorem lst_mem (m j : Nat) (hj : j < 26) : (97 + j).toUInt8 ∈ lst m ↔ m.testBit j = true := by
  unfold lst
  rw [lstR_mem m j 26 0 (by omega) hj]
  constructor
  · exact fun h => h.2.2
  · exact fun h => ⟨by omega, by omega, h⟩

theorem addL_front : ∀ (l : List UInt8) (c : UInt8), (∀ x ∈ l, c.toNat < x.toNat) → addL l c = c :: l
  | [], _, _ => rfl
  | x :: xs, c, h => by
    have hx := h x List.mem_cons_self
    have h1 : ¬ x < c := by rw [UInt8.lt_iff_toNat_lt]; omega
    have h2 : ¬ x = c := by rintro rfl; omega
    simp only [addL]
    rw [if_neg h1, if_neg h2]

theorem lstR_or_high (m j : Nat) : ∀ n i, j < i → lstR (m ||| 2 ^ j) i n = lstR m i n
  | 0, _, _ => rfl
  | n + 1, i, h => by
    have hb : (m ||| 2 ^ j).testBit i = m.testBit i := by
      rw [Nat.testBit_or, Nat.testBit_two_pow]
      have : decide (j = i) = false := by simp; omega
      simp [this]
    simp only [lstR, hb, lstR_or_high m j n (i + 1) (by omega)]

theorem lstR_or (m j : Nat) : ∀ n i, i + n ≤ 26 → i ≤ j → j < i + n → addL (lstR m i n) (97 + j).toUInt8 = lstR (m ||| 2 ^ j) i n
  | 0, i, _, h1, h2 => by omega
  | n + 1, i, h, h1, h2 => by
    by_cases hij : i = j
    · subst hij
      have hb : (m ||| 2 ^ i).testBit i = true := by simp [Nat.testBit_or]
      simp only [lstR, hb, lstR_or_high m i n (i + 1) (by omega), if_true]
      split
      · simp [addL]
      · refine addL_front _ _ fun x hx => ?_
        have := lstR_ge m n (i + 1) (by omega) x hx
        rw [fr_u8 (by omega)]
        omega
    · have hb : (m ||| 2 ^ j).testBit i = m.testBit i := by
        rw [Nat.testBit_or, Nat.testBit_two_pow]
        have : decide (j = i) = false := by simp; omega
        simp [this]
      have ih := lstR_or m j n (i + 1) (by omega) (by omega) (by omega)
      simp only [lstR, hb]
      split
      · have h3 : (97 + i).toUInt8 < (97 + j).toUInt8 := by
          rw [UInt8.lt_iff_toNat_lt, fr_u8 (by omega), fr_u8 (by omega)]; omega
        simp only [addL]
        rw [if_pos h3, ih]
      · exact ih

theorem lst_or (m j : Nat) (hj : j < 26) : addL (lst m) (97 + j).toUInt8 = lst (m ||| 2 ^ j) := lstR_or m j 26 0 (by omega) (by omega) (by omega)

theorem fr_orlt {m j : Nat} (hm : m < 67108864) (hj : j < 26) : m ||| 2 ^ j < 67108864 :=
  Nat.or_lt_two_pow (n := 26) hm (Nat.pow_lt_pow_right (by omega) hj)

theorem fr_letter {c : UInt8} {i : Nat} (h : c.toNat = 97 + i) (hi : i < 26) : c = (97 + i).toUInt8 := by
  apply UInt8.toNat_inj.1
  rw [fr_u8 (by omega), h]

theorem fr_pow {i : Nat} (hi : i < 26) : 2 ^ i < 67108864 := Nat.pow_lt_pow_right (n := 26) (by omega) hi

theorem fr_and {m i : Nat} (hm : m < 67108864) : (bits .and .u32 ((m : Int) / ((2 ^ i : Nat) : Int)) 1 == 1) = m.testBit i := by
  have h1 : ((m : Int) / ((2 ^ i : Nat) : Int)) = ((m / 2 ^ i : Nat) : Int) := by rw [Int.natCast_ediv]
  rw [h1]
  have h2 := u32_and_nat (m / 2 ^ i) 1 (Nat.lt_of_le_of_lt (Nat.div_le_self _ _) (by omega)) (by omega)
  have h3 : ((1 : Nat) : Int) = 1 := rfl
  rw [h3] at h2
  rw [h2, nat_mask1, Nat.testBit_eq_decide_div_mod_eq]
  rw [Bool.eq_iff_iff]
  simp only [beq_iff_eq, decide_eq_true_eq]
  omega

theorem fr_or {m i : Nat} (hm : m < 67108864) (hi : i < 26) : bits .or .u32 (m : Int) ((2 ^ i : Nat) : Int) = ((m ||| 2 ^ i : Nat) : Int) :=
  u32_or_nat m (2 ^ i) (by omega) (by have := fr_pow hi; omega)

set_option maxHeartbeats 1000000 in
theorem setHas_any (m i : Nat) (c : UInt8) (hm : m < 67108864) (hi : i < 26) (hc : c.toNat = 97 + i) (w : World) : Calls Tryd.prog 133 #[.int .u32 (m : Int), .string ⟨#[c]⟩] w fun e w' => e = .returned (.bool (m.testBit i)) ∧ w' = w := by
  have h0 : ((⟨#[c]⟩ : ByteArray)[0]'(by show 0 < 1; omega)).toNat = 97 + i := hc
  have h1 : (97 + (i : Int) - 97) % 256 = (i : Int) := by omega
  have h2 : (i : Int) % 256 = (i : Int) := by omega
  have h3 : min i 32 = i := by omega
  have h4 : (((97 + i : Nat) : Int) - 97) % 256 = (i : Int) := by omega
  have HB := hid (fr_and (i := i) hm)
  go_enter Tryd.func133, Tryd.ntmps133
  go_wp2_with fail
  go_ret
  exact ⟨ret_b HB.out, rfl⟩

set_option maxHeartbeats 1000000 in
theorem setWith_any (m i : Nat) (c : UInt8) (hm : m < 67108864) (hi : i < 26) (hc : c.toNat = 97 + i) (w : World) : Calls Tryd.prog 95 #[.int .u32 (m : Int), .string ⟨#[c]⟩] w fun e w' => e = .returned (.int .u32 ((m ||| 2 ^ i : Nat) : Int)) ∧ w' = w := by
  have h0 : ((⟨#[c]⟩ : ByteArray)[0]'(by show 0 < 1; omega)).toNat = 97 + i := hc
  have h1 : (97 + (i : Int) - 97) % 256 = (i : Int) := by omega
  have h2 : (i : Int) % 256 = (i : Int) := by omega
  have h3 : min i 32 = i := by omega
  have h4 : (((97 + i : Nat) : Int) - 97) % 256 = (i : Int) := by omega
  have HB := hid (fr_or hm hi)
  have HP := hid (show ((2 ^ i % 4294967296 : Nat) : Int) = ((2 ^ i : Nat) : Int) by have := fr_pow hi; rw [Nat.mod_eq_of_lt (by omega)])
  go_enter Tryd.func95, Tryd.ntmps95
  go_wp2_with fail
  refine bodyPost_ret (v := .int .u32 ((m ||| 2 ^ i : Nat) : Int)) ?_ rfl ⟨rfl, rfl⟩
  have h5 := HB.out
  have h6 := HP.out
  simp [results, Tryd.results95, go_sem]
  have h7 : ((2 ^ i : Nat) : Int) = (2 : Int) ^ i := by simp
  have h8 : ((2 ^ i % 4294967296 : Nat) : Int) = (2 : Int) ^ i % 4294967296 := by rw [Int.natCast_emod, h7]; rfl
  rw [h8] at h6
  rw [h6]
  exact h5
end Go.Proofs.YtbmlodikfmpfoaaDoor
