/- The specification's l18Num, of at most four digits. -/
import Derived.Test.YtgekfnodmgkdaaaPc2
namespace Go.Proofs.Ytgekfnodmgkdaaa
open Go.RowKit

theorem byt_ix {s : ByteArray} {i : Nat} (h : i < s.size) : byt s i = (s[i]'h).toNat := by simp [byt, h]

/-- What has been read of a number of digits. -/
def NumV (x : ByteArray) (j m : Nat) : Prop := m < 10 ^ j ∧ (j = 0 → m = 0) ∧ (j = 1 → m = byt x 0 - 48) ∧ (j = 2 → m = 10 * (byt x 0 - 48) + (byt x 1 - 48))

theorem NumV.step {x : ByteArray} {j m : Nat} (h : NumV x j m) (hd : isDg (byt x j) = true) : NumV x (j + 1) (m * 10 + (byt x j - 48)) := by
  obtain ⟨h0, h1, h2, h3⟩ := h
  have hr := isDg_rng hd
  refine ⟨by rw [Nat.pow_succ]; omega, by omega, fun e => ?_, fun e => ?_⟩
  · obtain rfl : j = 0 := by omega
    have := h1 rfl
    omega
  · obtain rfl : j = 1 := by omega
    have := h2 rfl
    omega

/-- What l18Num says of a row of digits. -/
def NumX (x : ByteArray) (w : World) (e : Ending) (w' : World) : Prop :=
  ∃ (n : Nat) (ok : Bool), e = .returned (.tuple #[.int .i64 (n : Int), .bool ok]) ∧ n ≤ 9999 ∧ (1 ≤ x.size → byt x 0 ≠ 48 → ok = true ∧ NumV x x.size n) ∧ Below w.heap.size w w'

set_option linter.unusedVariables false in
set_option linter.unusedSimpArgs false in
set_option maxHeartbeats 2000000 in
theorem l18Num_dg (x : ByteArray) (w : World) (hx : x.size ≤ 4) (hd : ∀ i, i < x.size → isDg (byt x i) = true) : Calls Try.prog 86 #[.string x] w (NumX x w) := by
  have HD := hid hd
  by_cases h0 : x.size = 0
  · have e0 : ((x.size : Int) == 0) = true := by simp [h0]
    have e1 : ¬ ((0 : Int) < (x.size : Int)) := by omega
    have HZ := hid h0
    clear hd h0
    go_enter Try.func86, Try.ntmps86
    go_wp2_with fail
    exact bodyPost_ret (v := .tuple #[.int .i64 0, .bool false]) (by simp [results, Try.results86, go_sem]) rfl ⟨0, false, rfl, by omega, fun h => by have := HZ.out; omega, by first | exact Below.refl _ _ | exact below_drew _⟩
  have hp : 0 < x.size := by omega
  have hr0 := isDg_rng (hd 0 hp)
  have hb0 := byt_ix hp
  have e0 : ((x.size : Int) == 0) = false := by rw [beq_eq_false_iff_ne]; omega
  have e1 : (0 : Int) < (x.size : Int) := by omega
  have e2 : ¬ ((17 : Int) < (x.size : Int)) := by omega
  have e3 : (((x[0]'hp).toNat : Int) == 45) = false := by rw [beq_eq_false_iff_ne]; omega
  by_cases hz : byt x 0 = 48
  · have e4 : (((x[0]'hp).toNat : Int) == 48) = true := by rw [beq_iff_eq]; omega
    by_cases h1 : x.size = 1
    · have e5 : ¬ ((1 : Int) < (x.size : Int)) := by omega
      clear hd h0 hr0 hz hb0
      go_enter Try.func86, Try.ntmps86
      go_wp2_with fail
      go_loopw [5, 6] (fun n i wr => ∃ j m : Nat, j ≤ x.size ∧ i = .int .i64 (j : Int) ∧ n = .int .i64 (m : Int) ∧ NumV x j m ∧ Below w.heap.size w wr) (fun _ i _ => x.size - (intOf i).toNat)
      case atStart => exact ⟨0, 0, Nat.zero_le _, rfl, rfl, ⟨by omega, fun _ => rfl, by omega, by omega⟩, by first | exact Below.refl _ _ | exact below_drew _⟩
      case round =>
        obtain ⟨j, m, hj, rfl, rfl, hv, hb⟩ := hrel
        by_cases hlt : j < x.size
        · have hdj := HD.out j hlt
          have hr := isDg_rng hdj
          have hbj := byt_ix hlt
          have hs := hv.step hdj
          have hm : m < 10000 := by
            have h1 := hv.1
            have h2 : 10 ^ j ≤ 10 ^ 4 := Nat.pow_le_pow_right (by omega) (by omega)
            omega
          have HVS := hid hs
          have HBB := hid hb
          have HVV := hid (And.intro hbj hr)
          have f1 : ¬ (((x[j]'hlt).toNat : Int) < 48) := by omega
          have f2 : ¬ ((57 : Int) < ((x[j]'hlt).toNat : Int)) := by omega
          have f3 : IntKind.u8.wrap (((x[j]'hlt).toNat : Int) - 48) = (((x[j]'hlt).toNat - 48 : Nat) : Int) := by rw [IntKind.wrap_u8]; omega
          have f4 : IntKind.i64.wrap (((x[j]'hlt).toNat - 48 : Nat) : Int) = (((x[j]'hlt).toNat - 48 : Nat) : Int) := by rw [IntKind.wrap_i64]; omega
          have f5 : IntKind.i64.wrap ((m : Int) * 10) = (m : Int) * 10 := by rw [IntKind.wrap_i64]; omega
          have f6 : IntKind.i64.wrap ((m : Int) * 10 + (((x[j]'hlt).toNat - 48 : Nat) : Int)) = ((m * 10 + ((x[j]'hlt).toNat - 48) : Nat) : Int) := by rw [IntKind.wrap_i64]; omega
          clear hdj hr hbj hs hv hb
          go_wp2_with fail
          go_roundw
          case rel =>
            refine ⟨j + 1, m * 10 + (byt x j - 48), by omega, by go_num, ?_, HVS.out, HBB.out⟩
            rw [HVV.out.1]
            first | rfl | (simp only [f3, f4, f5, f6])
          case measure => simp [intOf]; omega
        · have hj2 : j = x.size := by omega
          have hm : m ≤ 9999 := by
            have h1 := hv.1
            have h2 : 10 ^ j ≤ 10 ^ 4 := Nat.pow_le_pow_right (by omega) (by omega)
            omega
          have HVV := hid (show NumV x x.size m from hj2 ▸ hv)
          have HBB := hid hb
          clear hv hb
          go_wp2_with fail
          exact bodyPost_ret (v := .tuple #[.int .i64 (m : Int), .bool true]) (by simp [results, Try.results86, go_sem]) rfl ⟨m, true, rfl, hm, fun _ _ => ⟨rfl, HVV.out⟩, HBB.out⟩
    · have e5 : (1 : Int) < (x.size : Int) := by omega
      have HZ := hid hz
      clear hd h0 hr0 hz hb0
      go_enter Try.func86, Try.ntmps86
      go_wp2_with fail
      exact bodyPost_ret (v := .tuple #[.int .i64 0, .bool false]) (by simp [results, Try.results86, go_sem]) rfl ⟨0, false, rfl, by omega, fun _ h => absurd HZ.out h, by first | exact Below.refl _ _ | exact below_drew _⟩
  have e4 : (((x[0]'hp).toNat : Int) == 48) = false := by rw [beq_eq_false_iff_ne]; omega
  clear hd h0 hr0 hz hb0
  go_enter Try.func86, Try.ntmps86
  go_wp2_with fail
  go_loopw [5, 6] (fun n i wr => ∃ j m : Nat, j ≤ x.size ∧ i = .int .i64 (j : Int) ∧ n = .int .i64 (m : Int) ∧ NumV x j m ∧ Below w.heap.size w wr) (fun _ i _ => x.size - (intOf i).toNat)
  case atStart => exact ⟨0, 0, Nat.zero_le _, rfl, rfl, ⟨by omega, fun _ => rfl, by omega, by omega⟩, by first | exact Below.refl _ _ | exact below_drew _⟩
  case round =>
    obtain ⟨j, m, hj, rfl, rfl, hv, hb⟩ := hrel
    by_cases hlt : j < x.size
    · have hdj := HD.out j hlt
      have hr := isDg_rng hdj
      have hbj := byt_ix hlt
      have hs := hv.step hdj
      have hm : m < 10000 := by
        have h1 := hv.1
        have h2 : 10 ^ j ≤ 10 ^ 4 := Nat.pow_le_pow_right (by omega) (by omega)
        omega
      have HVS := hid hs
      have HBB := hid hb
      have HVV := hid (And.intro hbj hr)
      have f1 : ¬ (((x[j]'hlt).toNat : Int) < 48) := by omega
      have f2 : ¬ ((57 : Int) < ((x[j]'hlt).toNat : Int)) := by omega
      have f3 : IntKind.u8.wrap (((x[j]'hlt).toNat : Int) - 48) = (((x[j]'hlt).toNat - 48 : Nat) : Int) := by rw [IntKind.wrap_u8]; omega
      have f4 : IntKind.i64.wrap (((x[j]'hlt).toNat - 48 : Nat) : Int) = (((x[j]'hlt).toNat - 48 : Nat) : Int) := by rw [IntKind.wrap_i64]; omega
      have f5 : IntKind.i64.wrap ((m : Int) * 10) = (m : Int) * 10 := by rw [IntKind.wrap_i64]; omega
      have f6 : IntKind.i64.wrap ((m : Int) * 10 + (((x[j]'hlt).toNat - 48 : Nat) : Int)) = ((m * 10 + ((x[j]'hlt).toNat - 48) : Nat) : Int) := by rw [IntKind.wrap_i64]; omega
      clear hdj hr hbj hs hv hb
      go_wp2_with fail
      go_roundw
      case rel =>
        refine ⟨j + 1, m * 10 + (byt x j - 48), by omega, by go_num, ?_, HVS.out, HBB.out⟩
        rw [HVV.out.1]
        first | rfl | (simp only [f3, f4, f5, f6])
      case measure => simp [intOf]; omega
    · have hj2 : j = x.size := by omega
      have hm : m ≤ 9999 := by
        have h1 := hv.1
        have h2 : 10 ^ j ≤ 10 ^ 4 := Nat.pow_le_pow_right (by omega) (by omega)
        omega
      have HVV := hid (show NumV x x.size m from hj2 ▸ hv)
      have HBB := hid hb
      clear hv hb
      go_wp2_with fail
      exact bodyPost_ret (v := .tuple #[.int .i64 (m : Int), .bool true]) (by simp [results, Try.results86, go_sem]) rfl ⟨m, true, rfl, hm, fun _ _ => ⟨rfl, HVV.out⟩, HBB.out⟩
end Go.Proofs.Ytgekfnodmgkdaaa
