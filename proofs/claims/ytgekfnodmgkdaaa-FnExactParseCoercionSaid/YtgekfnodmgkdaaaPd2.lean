/- The specification's l6Number and l6Which. -/
import Derived.Test.YtgekfnodmgkdaaaPd1
import Derived.Test.YtgekfnodmgkdaaaFcS
namespace Go.Proofs.Ytgekfnodmgkdaaa
open Go.RowKit

/-- What l6Number says. -/
def LbX (s : ByteArray) (a : Nat) (w : World) (e : Ending) (w' : World) : Prop :=
  ∃ (n p : Int), e = .returned (.tuple #[.int .i64 n, .int .i64 p]) ∧ -9999 ≤ n ∧ n ≤ 9999 ∧ (p = -1 ∨ ∃ q : Nat, p = (q : Int) ∧ a ≤ q ∧ q ≤ s.size) ∧
    (∀ l, isLb l = true → TxtAt s a (Lib.itoa l) → isDg (byt s (a + (Lib.itoa l).length)) = false → n = l ∧ p = ((a + (Lib.itoa l).length : Nat) : Int)) ∧ Below w.heap.size w w'

theorem dec_head {u : Nat} (h : u ≤ 99) : ∃ c l, Lib.decDigits u = c :: l ∧ 48 ≤ c.toNat ∧ c.toNat ≤ 57 := by
  by_cases hu : u < 10
  · exact ⟨_, _, dec_one hu, by rw [ofNat_dg hu]; omega, by rw [ofNat_dg hu]; omega⟩
  · exact ⟨_, _, dec_two (by omega) (by omega), by rw [ofNat_dg (by omega)]; omega, by rw [ofNat_dg (by omega)]; omega⟩

set_option linter.unusedVariables false in
set_option linter.unusedSimpArgs false in
set_option maxHeartbeats 1000000 in
theorem l6Number_any (s : ByteArray) (a : Nat) (w : World) (hs : s.size ≤ 1048576) (ha : a ≤ s.size) : Calls Try.prog 63 #[.string s, .int .i64 (a : Int)] w (LbX s a w) := by
  by_cases hm : byt s a = 45
  · have hlt := byt_in (show byt s a ≠ 0 by rw [hm]; decide)
    have k1 : (a : Int) < (s.size : Int) := by omega
    have hbq := byt_ix hlt
    have k2 : (((s[a]'hlt).toNat : Int) == 45) = true := by rw [beq_iff_eq]; omega
    have hw : IntKind.i64.wrap ((a : Int) + 1) = ((a + 1 : Nat) : Int) := by rw [IntKind.wrap_i64]; omega
    have HX := hid (show ∀ l, isLb l = true → TxtAt s a (Lib.itoa l) → isDg (byt s (a + (Lib.itoa l).length)) = false → ∀ (n : Nat) (p : Int), (∀ u, 1 ≤ u → u ≤ 99 → TxtAt s (a + 1) (Lib.decDigits u) → isDg (byt s (a + 1 + (Lib.decDigits u).length)) = false → n = u ∧ p = ((a + 1 + (Lib.decDigits u).length : Nat) : Int)) → -(n : Int) = l ∧ p = ((a + (Lib.itoa l).length : Nat) : Int) from fun l hl ht he n p hu => by
      have hr := isLb_rng' hl
      have h0 : l ≠ 0 := fun e => by subst e; simp [isLb] at hl
      by_cases hn : l < 0
      · obtain ⟨u, rfl⟩ : ∃ u : Nat, l = -(u : Int) := ⟨l.natAbs, by omega⟩
        rw [Lib.itoa_neg u (by omega)] at ht he ⊢
        have el : a + (45 :: Lib.decDigits u).length = a + 1 + (Lib.decDigits u).length := by simp; omega
        rw [el] at he ⊢
        obtain ⟨h1, h2⟩ := hu u (by omega) (by omega) ht.2.2 he
        exact ⟨by omega, h2⟩
      · obtain ⟨u, rfl⟩ : ∃ u : Nat, l = (u : Int) := ⟨l.toNat, by omega⟩
        rw [Lib.itoa_nonneg] at ht
        obtain ⟨c, r, e, h1, _⟩ := dec_head (u := u) (by omega)
        rw [e] at ht
        have := ht.1
        omega)
    clear hbq
    clear hm
    go_enter Try.func63, Try.ntmps63
    go_wp2_with fail
    refine (l2Digits_any s (a + 1) _ hs (by omega)).mono ?_
    rintro e w1 ⟨n, p, rfl, hn, hp, hu, hb⟩
    have HP := hid hp
    have HU := hid hu
    have HB := hid hb
    have f1 : IntKind.i64.wrap (-1 * (n : Int)) = -(n : Int) := by rw [IntKind.wrap_i64]; omega
    have f2 : IntKind.i64.wrap (-(n : Int)) = -(n : Int) := by rw [IntKind.wrap_i64]; omega
    clear hp hu hb
    go_wp2_with fail
    exact bodyPost_ret (v := .tuple #[.int .i64 (-(n : Int)), .int .i64 p]) (by simp [results, Try.results63, go_sem]) rfl ⟨-(n : Int), p, rfl, by omega, by omega, by have := HP.out; rcases this with h | ⟨q, h1, h2, h3⟩; exact .inl h; exact .inr ⟨q, h1, by omega, h3⟩, fun l hl ht he => HX.out l hl ht he n p HU.out, by first | exact HB.out | exact below_trans (below_drew _) HB.out⟩
  · have hq : ∀ hlt : a < s.size, (((s[a]'hlt).toNat : Int) == 45) = false := fun hlt => by rw [beq_eq_false_iff_ne]; have := byt_ix hlt; omega
    have HX := hid (show ∀ l, isLb l = true → TxtAt s a (Lib.itoa l) → isDg (byt s (a + (Lib.itoa l).length)) = false → ∀ (n : Nat) (p : Int), (∀ u, 1 ≤ u → u ≤ 99 → TxtAt s a (Lib.decDigits u) → isDg (byt s (a + (Lib.decDigits u).length)) = false → n = u ∧ p = ((a + (Lib.decDigits u).length : Nat) : Int)) → (n : Int) = l ∧ p = ((a + (Lib.itoa l).length : Nat) : Int) from fun l hl ht he n p hu => by
      have hr := isLb_rng' hl
      have h0 : l ≠ 0 := fun e => by subst e; simp [isLb] at hl
      by_cases hn : l < 0
      · obtain ⟨u, rfl⟩ : ∃ u : Nat, l = -(u : Int) := ⟨l.natAbs, by omega⟩
        rw [Lib.itoa_neg u (by omega)] at ht
        exact absurd ht.1 hm
      · obtain ⟨u, rfl⟩ : ∃ u : Nat, l = (u : Int) := ⟨l.toNat, by omega⟩
        rw [Lib.itoa_nonneg] at ht he ⊢
        obtain ⟨h1, h2⟩ := hu u (by omega) (by omega) ht he
        exact ⟨by omega, h2⟩)
    by_cases hlt : a < s.size
    · have k1 : (a : Int) < (s.size : Int) := by omega
      have k2 := hq hlt
      clear hq
      clear hm
      go_enter Try.func63, Try.ntmps63
      go_wp2_with fail
      refine (l2Digits_any s a _ hs (by omega)).mono ?_
      rintro e w1 ⟨n, p, rfl, hn, hp, hu, hb⟩
      have HP := hid hp
      have HU := hid hu
      have HB := hid hb
      have f1 : IntKind.i64.wrap (1 * (n : Int)) = (n : Int) := by rw [IntKind.wrap_i64]; omega
      have f2 : IntKind.i64.wrap ((n : Int)) = (n : Int) := by rw [IntKind.wrap_i64]; omega
      clear hp hu hb
      go_wp2_with fail
      exact bodyPost_ret (v := .tuple #[.int .i64 ((n : Int)), .int .i64 p]) (by simp [results, Try.results63, go_sem]) rfl ⟨(n : Int), p, rfl, by omega, by omega, by have := HP.out; exact this, fun l hl ht he => HX.out l hl ht he n p HU.out, by first | exact HB.out | exact below_trans (below_drew _) HB.out⟩
    · have k1 : ¬ ((a : Int) < (s.size : Int)) := by omega
      clear hq
      clear hm
      go_enter Try.func63, Try.ntmps63
      go_wp2_with fail
      refine (l2Digits_any s a _ hs (by omega)).mono ?_
      rintro e w1 ⟨n, p, rfl, hn, hp, hu, hb⟩
      have HP := hid hp
      have HU := hid hu
      have HB := hid hb
      have f1 : IntKind.i64.wrap (1 * (n : Int)) = (n : Int) := by rw [IntKind.wrap_i64]; omega
      have f2 : IntKind.i64.wrap ((n : Int)) = (n : Int) := by rw [IntKind.wrap_i64]; omega
      clear hp hu hb
      go_wp2_with fail
      exact bodyPost_ret (v := .tuple #[.int .i64 ((n : Int)), .int .i64 p]) (by simp [results, Try.results63, go_sem]) rfl ⟨(n : Int), p, rfl, by omega, by omega, by have := HP.out; exact this, fun l hl ht he => HX.out l hl ht he n p HU.out, by first | exact HB.out | exact below_trans (below_drew _) HB.out⟩

theorem ext_one {s : ByteArray} {j : Nat} (h : j < s.size) : (s.extract j (j + 1)).toList = [s[j]] := by
  have h0 : j < s.data.size := h
  rw [ByteArray.toList_eq]
  simp only [ByteArray.data_extract, Array.toList_extract]
  have h1 : s.data.toList.length = s.data.size := Array.length_toList
  rw [List.extract_eq_take_drop, show j + 1 - j = 1 by omega, List.drop_eq_getElem_cons (by rw [h1]; exact h0)]
  simp
  rfl

theorem kos_at {s : ByteArray} {a : Nat} (h : a < s.size) : ∀ j : Int, 1 ≤ j → j ≤ 5 → ((sgn j == s[a]) = true → kos (byt s a) = j) := fun j h1 h2 e => by
  rw [byt_ix h, ← beq_iff_eq.1 e]
  exact kos_sgn ⟨h1, h2⟩

theorem kos_none {s : ByteArray} {a : Nat} (h : a < s.size) (hn : ∀ j : Int, 1 ≤ j → j ≤ 5 → (sgn j == s[a]) = false) : kos (byt s a) = 0 := by
  rw [byt_ix h]
  have e : ∀ j : Int, 1 ≤ j → j ≤ 5 → (s[a]).toNat ≠ (sgn j).toNat := fun j h1 h2 e => by
    have := hn j h1 h2
    rw [UInt8.toNat_inj.1 e] at this
    simp at this
  have e1 := e 1 (by omega) (by omega)
  have e2 := e 2 (by omega) (by omega)
  have e3 := e 3 (by omega) (by omega)
  have e4 := e 4 (by omega) (by omega)
  have e5 := e 5 (by omega) (by omega)
  have g1 : (sgn 1).toNat = 63 := by decide
  have g2 : (sgn 2).toNat = 73 := by decide
  have g3 : (sgn 3).toNat = 66 := by decide
  have g4 : (sgn 4).toNat = 62 := by decide
  have g5 : (sgn 5).toNat = 42 := by decide
  unfold kos
  rw [if_neg (by omega), if_neg (by omega), if_neg (by omega), if_neg (by omega), if_neg (by omega)]

set_option linter.unusedVariables false in
set_option linter.unusedSimpArgs false in
set_option maxHeartbeats 2000000 in
theorem l6Which_any (s : ByteArray) (a : Nat) (w : World) (hs : s.size ≤ 1048576) : Calls Try.prog 64 #[.string s, .int .i64 (a : Int)] w fun e w' => e = .returned (.int .i64 (kos (byt s a))) ∧ Below w.heap.size w w' := by
  by_cases hlt : a < s.size
  case neg =>
    have HK := hid (show kos (byt s a) = 0 by unfold byt; rw [dif_neg hlt]; decide)
    have k1 : ¬ ((a : Int) < (s.size : Int)) := by omega
    clear hlt
    go_enter Try.func64, Try.ntmps64
    go_wp2_with fail
    go_loopw [5] (fun i wr => i = .int .i64 1 ∧ Below w.heap.size w wr) (fun i _ => 0)
    case atStart => exact ⟨rfl, by first | exact Below.refl _ _ | exact below_drew _⟩
    case round =>
      obtain ⟨rfl, hb⟩ := hrel
      have HB := hid hb
      clear hb
      go_wp2_with fail
      go_ret
      exact ⟨ret_i HK.out.symm, HB.out⟩
  have k1 : (a : Int) < (s.size : Int) := by omega
  have hw : IntKind.i64.wrap ((a : Int) + 1) = (a : Int) + 1 := by rw [IntKind.wrap_i64]; omega
  have HE := hid (ext_one hlt)
  have HK := hid (kos_at hlt)
  have HN := hid (kos_none hlt)
  have q1 : (a : Int) + 1 ≤ (s.size : Int) := by omega
  have q2 : (0 : Int) ≤ (a : Int) + 1 := by omega
  have q3 : (a : Int) ≤ (a : Int) + 1 := by omega
  have q4 : ((a : Int) + 1).toNat = a + 1 := by omega
  go_enter Try.func64, Try.ntmps64
  go_wp2_with fail
  go_loopw [5] (fun i wr => ∃ j : Nat, 1 ≤ j ∧ j ≤ 6 ∧ i = .int .i64 (j : Int) ∧ (∀ r : Int, 1 ≤ r → r < j → (sgn r == s[a]'hlt) = false) ∧ Below w.heap.size w wr) (fun i _ => 6 - (intOf i).toNat)
  case atStart => exact ⟨1, by omega, by omega, rfl, fun r h1 h2 => by omega, by first | exact Below.refl _ _ | exact below_drew _⟩
  case round =>
    obtain ⟨j, hj1, hj6, rfl, hr, hb⟩ := hrel
    have HB := hid hb
    have HR := hid hr
    clear hb hr
    by_cases hj : j ≤ 5
    case neg =>
      have k2 : ¬ ((j : Int) ≤ 5) := by omega
      have HZ := hid (HN.out (fun r h1 h2 => HR.out r h1 (by omega)))
      go_wp2_with fail
      go_ret
      exact ⟨ret_i HZ.out.symm, HB.out⟩
    have k2 : (j : Int) ≤ 5 := by omega
    have HL := hid (fun w0 => l6Letter_at (j : Int) ⟨by omega, by omega⟩ w0)
    have HKJ := hid (HK.out (j : Int) (by omega) (by omega))
    have hwj : IntKind.i64.wrap ((j : Int) + 1) = (j : Int) + 1 := by rw [IntKind.wrap_i64]; omega
    cases hq : (sgn (j : Int) == s[a]'hlt) with
    | true =>
      have HKK := hid (HKJ.out hq)
      generalize sgn (j : Int) = c at *
      have e1 : ([c] == (s.extract a (a + 1)).toList) = true := by rw [HE.out]; simpa using hq
      clear hq
      go_wp2_with fail
      go_region_held3 (fun w' => Below wr.heap.size wr w')
        ((first | exact below_drew _ | exact hk1))
        ((go_at_call 76; refine (HL.out _).mono ?_; rintro e w3 ⟨rfl, hy1⟩; have hk1 := below_trans (below_drew _) hy1))
      go_wp2_with fail
      go_ret
      exact ⟨ret_i HKK.out.symm, HB.out.trans (hk1.mono HB.out.size)⟩
    | false =>
      have HQ := hid hq
      have HRN := hid (show ∀ r : Int, 1 ≤ r → r < ((j + 1 : Nat) : Int) → (sgn r == s[a]'hlt) = false from fun r h1 h2 => by
        by_cases h : r = (j : Int)
        · rw [h]; exact HQ.out
        · exact HR.out r h1 (by omega))
      have e1 : ([sgn (j : Int)] == (s.extract a (a + 1)).toList) = false := by rw [HE.out]; simpa using hq
      clear hq
      go_wp2_with fail
      go_region_held3 (fun w' => Below wr.heap.size wr w')
        ((first | exact below_drew _ | exact hk1))
        ((go_at_call 76; refine (HL.out _).mono ?_; rintro e w3 ⟨rfl, hy1⟩; have hk1 := below_trans (below_drew _) hy1))
      go_wp2_with fail
      go_roundw
      case rel => exact ⟨j + 1, by omega, by omega, by go_num, HRN.out, HB.out.trans (hk1.mono HB.out.size)⟩
      case measure => simp [intOf]; omega
end Go.Proofs.Ytgekfnodmgkdaaa
