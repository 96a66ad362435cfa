/- The program's isDigit, readNumber (of a label) and readLabel. -/
import Derived.Test.YtgekfnodmgkdaaaPc0
namespace Go.Proofs.Ytgekfnodmgkdaaa
open Go.RowKit

set_option maxHeartbeats 400000 in
theorem isDigit_any (c : Nat) (w : World) : Calls Try.prog 79 #[.int .u8 (c : Int)] w fun e w' => e = .returned (.bool (isDg c)) ∧ Below w.heap.size w w' := by
  by_cases h1 : 48 ≤ c
  · by_cases h2 : c ≤ 57
    · have HT := hid (show isDg c = true by simp [isDg, h1, h2])
      have q1 : (48 : Int) ≤ (c : Int) := by omega
      have q2 : (c : Int) ≤ 57 := by omega
      clear h1 h2
      go_enter Try.func79, Try.ntmps79
      go_wp2_with fail
      go_ret
      exact ⟨ret_b HT.out.symm, by first | exact Below.refl _ _ | exact below_drew _⟩
    · have HT := hid (show isDg c = false by simp [isDg, h2])
      have q1 : (48 : Int) ≤ (c : Int) := by omega
      have q2 : ¬ (c : Int) ≤ 57 := by omega
      clear h1 h2
      go_enter Try.func79, Try.ntmps79
      go_wp2_with fail
      go_ret
      exact ⟨ret_b HT.out.symm, by first | exact Below.refl _ _ | exact below_drew _⟩
  · have HT := hid (show isDg c = false by simp [isDg, h1])
    have q1 : ¬ (48 : Int) ≤ (c : Int) := by omega
    clear h1
    go_enter Try.func79, Try.ntmps79
    go_wp2_with fail
    go_ret
    exact ⟨ret_b HT.out.symm, by first | exact Below.refl _ _ | exact below_drew _⟩

theorem ret_tuple_nb {n : Int} {a b : Bool} (h : a = b) : Ending.returned (.tuple #[.int .i64 n, .bool a]) = .returned (.tuple #[.int .i64 n, .bool b]) := by rw [h]

/-- The rounds of readNumber. -/
def lpn (s : ByteArray) : Nat → Nat → Nat → Nat × Nat
  | 0, n, i => (n, i)
  | f + 1, n, i => if (0 < n ∧ n ≤ 99) ∧ isDg (byt s i) = true then lpn s f (10 * n + (byt s i - 48)) (i + 1) else (n, i)

theorem isDg_rng {c : Nat} (h : isDg c = true) : 48 ≤ c ∧ c ≤ 57 := by simpa [isDg] using h

theorem rdn_lpn {s : ByteArray} {i : Nat} (h : isDg (byt s i) = true) : rdn s i = lpn s 3 (byt s i - 48) (i + 1) := by
  have hr := isDg_rng h
  unfold rdn
  by_cases h1 : 0 < byt s i - 48 ∧ isDg (byt s (i + 1)) = true
  · have hr1 := isDg_rng h1.2
    have e1 : (0 < byt s i - 48 ∧ byt s i - 48 ≤ 99) ∧ isDg (byt s (i + 1)) = true := ⟨⟨h1.1, by omega⟩, h1.2⟩
    have e0 : lpn s 3 (byt s i - 48) (i + 1) = lpn s 2 (10 * (byt s i - 48) + (byt s (i + 1) - 48)) (i + 2) := by rw [lpn, if_pos e1]
    rw [if_pos h1, e0]
    by_cases h2 : isDg (byt s (i + 2)) = true
    · have e2 : (0 < 10 * (byt s i - 48) + (byt s (i + 1) - 48) ∧ 10 * (byt s i - 48) + (byt s (i + 1) - 48) ≤ 99) ∧ isDg (byt s (i + 2)) = true := ⟨⟨by omega, by omega⟩, h2⟩
      have e3 : lpn s 2 (10 * (byt s i - 48) + (byt s (i + 1) - 48)) (i + 2) = lpn s 1 (10 * (10 * (byt s i - 48) + (byt s (i + 1) - 48)) + (byt s (i + 2) - 48)) (i + 3) := by rw [lpn, if_pos e2]
      rw [if_pos h2, e3, lpn, if_neg (by omega)]
    · have e2 : ¬ ((0 < 10 * (byt s i - 48) + (byt s (i + 1) - 48) ∧ 10 * (byt s i - 48) + (byt s (i + 1) - 48) ≤ 99) ∧ isDg (byt s (i + 2)) = true) := fun h => h2 h.2
      rw [if_neg h2, lpn, if_neg e2]
  · have e1 : ¬ ((0 < byt s i - 48 ∧ byt s i - 48 ≤ 99) ∧ isDg (byt s (i + 1)) = true) := fun h => h1 ⟨h.1.1, h.2⟩
    rw [if_neg h1, lpn, if_neg e1]

/-- What has been read of a number. -/
def NumS (b : Nat) (s : ByteArray) (w : World) (R : Nat × Nat) (i : Value) (wr : World) : Prop :=
  ∃ f n j : Nat, i = .int .i64 (n : Int) ∧ CurAt b s j wr ∧ Cx b w wr ∧ lpn s f n j = R ∧ ((f = 3 ∧ n ≤ 9) ∨ (f = 2 ∧ 10 ≤ n ∧ n ≤ 99) ∨ (f = 1 ∧ 100 ≤ n ∧ n ≤ 999))

set_option linter.unusedVariables false in
set_option maxHeartbeats 1000000 in
theorem readNumber_any (b : Nat) (s : ByteArray) (i : Nat) (w : World) (h : CurAt b s i w) (hd : isDg (byt s i) = true) :
    Calls Try.prog 80 #[.pointer (some ⟨b, 0, none⟩), .int .i64 99] w fun e w' => e = .returned (.tuple #[.int .i64 ((rdn s i).1 : Int), .bool (decide ((rdn s i).1 ≤ 99))]) ∧ CurAt b s (rdn s i).2 w' ∧ Cx b w w' := by
  have H := hid h
  have hr := isDg_rng hd
  have HL := hid (rdn_lpn hd)
  have HX := hid (nxt_in (s := s) (i := i) (by omega))
  generalize hR : rdn s i = R at *
  generalize hc : byt s i = c at *
  have hw : IntKind.u8.wrap ((c : Int) - 48) = ((c - 48 : Nat) : Int) := by rw [IntKind.wrap_u8]; omega
  have hw2 : IntKind.i64.wrap ((c - 48 : Nat) : Int) = ((c - 48 : Nat) : Int) := by rw [IntKind.wrap_i64]; omega
  have HC := hid hc
  clear h hd hR hc
  go_enter Try.func80, Try.ntmps80
  go_wp2_with fail
  refine (next_any b s i _ H.out).mono ?_
  rw [HC.out]
  rintro e w1 ⟨rfl, h1, hx1⟩
  have HS : Hid (NumS b s w R (.int .i64 ((c - 48 : Nat) : Int)) w1) := hid ⟨3, c - 48, nxt s i, rfl, h1, hx1, by rw [HL.out, HX.out], .inl ⟨rfl, by omega⟩⟩
  clear h1 hx1
  go_wp2_with fail
  go_loopw [6] (fun i wr => NumS b s w R i wr) (fun i _ => 1000 - (intOf i).toNat)
  case atStart => first | exact HS.out | (rw [hw]; exact HS.out) | (simpa [hw, hw2] using HS.out)
  case round =>
    obtain ⟨f, n, j, rfl, hcur, hx, hl, hf⟩ := hrel
    have HU := hid hcur
    have HXX := hid hx
    have HLL := hid hl
    clear hcur hx hl
    by_cases hn : 0 < n
    case neg =>
      have q0 : ¬ (0 : Int) < (n : Int) := by omega
      have HR := hid (show (n, j) = R by rcases hf with ⟨rfl, _⟩ | ⟨rfl, _, _⟩ | ⟨rfl, _, _⟩ <;> (rw [← HLL.out, lpn, if_neg (fun h => hn h.1.1)]))
      have q9 : (n : Int) ≤ 99 := by omega
      clear hf hn
      go_wp2_with fail
      obtain rfl := HR.out
      exact bodyPost_ret (v := .tuple #[.int .i64 (n : Int), .bool true]) (by simp [results, Try.results80, go_sem]) rfl ⟨ret_tuple_nb (by simp; omega), HU.out, HXX.out⟩
    by_cases hn2 : n ≤ 99
    case neg =>
      have q0 : (0 : Int) < (n : Int) := by omega
      have q9 : ¬ (n : Int) ≤ 99 := by omega
      have HR := hid (show (n, j) = R by rcases hf with ⟨rfl, _⟩ | ⟨rfl, _, _⟩ | ⟨rfl, _, _⟩ <;> (rw [← HLL.out, lpn, if_neg (fun h => hn2 h.1.2)]))
      clear hf hn
      go_wp2_with fail
      obtain rfl := HR.out
      exact bodyPost_ret (v := .tuple #[.int .i64 (n : Int), .bool false]) (by simp [results, Try.results80, go_sem]) rfl ⟨ret_tuple_nb (by simp; omega), HU.out, HXX.out⟩
    have q0 : (0 : Int) < (n : Int) := by omega
    have q9 : (n : Int) ≤ 99 := by omega
    cases hdg : isDg (byt s j) with
    | false =>
      have HR := hid (show (n, j) = R by rcases hf with ⟨rfl, _⟩ | ⟨rfl, _, _⟩ | ⟨rfl, _, _⟩ <;> (rw [← HLL.out, lpn, if_neg (fun h => by rw [hdg] at h; exact absurd h.2 (by decide))]))
      have HDG := hid hdg
      clear hf hn hn2 hdg
      go_wp2_with fail
      refine (peek_any b s j _ HU.out).mono ?_
      rintro e w2 ⟨rfl, hb2⟩
      have HU2 := hid (HU.out.below hb2)
      have HX2 := hid (HXX.out.trans (Cx.of_below hb2))
      clear hb2
      go_wp2_with fail
      refine (isDigit_any _ _).mono ?_
      rw [HDG.out]
      rintro e w3 ⟨rfl, hb3⟩
      have HU3 := hid (HU2.out.below hb3)
      have HX3 := hid (HX2.out.trans (Cx.of_below hb3))
      clear hb3
      go_wp2_with fail
      obtain rfl := HR.out
      exact bodyPost_ret (v := .tuple #[.int .i64 (n : Int), .bool true]) (by simp [results, Try.results80, go_sem]) rfl ⟨ret_tuple_nb (by simp; omega), HU3.out, HX3.out⟩
    | true =>
      have hr1 := isDg_rng hdg
      have HNX := hid (nxt_in (s := s) (i := j) (by omega))
      have HDG := hid hdg
      have HNEXT := hid (show ∃ f', lpn s f' (10 * n + (byt s j - 48)) (j + 1) = R ∧ ((f' = 3 ∧ 10 * n + (byt s j - 48) ≤ 9) ∨ (f' = 2 ∧ 10 ≤ 10 * n + (byt s j - 48) ∧ 10 * n + (byt s j - 48) ≤ 99) ∨ (f' = 1 ∧ 100 ≤ 10 * n + (byt s j - 48) ∧ 10 * n + (byt s j - 48) ≤ 999)) by
        rcases hf with ⟨rfl, _⟩ | ⟨rfl, _, _⟩ | ⟨rfl, _, _⟩
        · have e : lpn s 3 n j = lpn s 2 (10 * n + (byt s j - 48)) (j + 1) := by rw [lpn, if_pos ⟨⟨hn, hn2⟩, hdg⟩]
          exact ⟨2, by rw [← HLL.out, e], .inr (.inl ⟨rfl, by omega, by omega⟩)⟩
        · have e : lpn s 2 n j = lpn s 1 (10 * n + (byt s j - 48)) (j + 1) := by rw [lpn, if_pos ⟨⟨hn, hn2⟩, hdg⟩]
          exact ⟨1, by rw [← HLL.out, e], .inr (.inr ⟨rfl, by omega, by omega⟩)⟩
        · omega)
      generalize hcj : byt s j = c1 at *
      have HCJ := hid hcj
      have w1' : IntKind.u8.wrap ((c1 : Int) - 48) = ((c1 - 48 : Nat) : Int) := by rw [IntKind.wrap_u8]; omega
      have w2' : IntKind.i64.wrap ((c1 - 48 : Nat) : Int) = ((c1 - 48 : Nat) : Int) := by rw [IntKind.wrap_i64]; omega
      have w3' : IntKind.i64.wrap (10 * (n : Int)) = 10 * (n : Int) := by rw [IntKind.wrap_i64]; omega
      have w4' : IntKind.i64.wrap (10 * (n : Int) + ((c1 - 48 : Nat) : Int)) = ((10 * n + (c1 - 48) : Nat) : Int) := by rw [IntKind.wrap_i64]; omega
      clear hf hdg hcj
      go_wp2_with fail
      refine (peek_any b s j _ HU.out).mono ?_
      rw [HCJ.out]
      rintro e w2 ⟨rfl, hb2⟩
      have HU2 := hid (HU.out.below hb2)
      have HX2 := hid (HXX.out.trans (Cx.of_below hb2))
      clear hb2
      go_wp2_with fail
      refine (isDigit_any _ _).mono ?_
      rw [HDG.out]
      rintro e w3 ⟨rfl, hb3⟩
      have HU3 := hid (HU2.out.below hb3)
      have HX3 := hid (HX2.out.trans (Cx.of_below hb3))
      clear hb3
      go_wp2_with fail
      refine (next_any b s j _ HU3.out).mono ?_
      rw [HCJ.out]
      rintro e w4 ⟨rfl, hc4, hx4⟩
      have HU4 := hid hc4
      have HX4 := hid (HX3.out.trans hx4)
      clear hc4 hx4
      go_wp2_with fail
      go_roundw
      case rel =>
        obtain ⟨f', h1, h2⟩ := HNEXT.out
        refine ⟨f', 10 * n + (c1 - 48), j + 1, ?_, by rw [← HNX.out]; exact HU4.out, HX4.out, h1, h2⟩
        first | rfl | go_num | (simp only [w1', w2', w3', w4'])
      case measure => first | (simp [intOf]; omega) | (simp only [w1', w2', w3', w4', intOf]; omega)
end Go.Proofs.Ytgekfnodmgkdaaa
