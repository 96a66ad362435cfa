/- The program's readLabel. -/
import Derived.Test.YtgekfnodmgkdaaaPc2
namespace Go.Proofs.Ytgekfnodmgkdaaa
open Go.RowKit

theorem rdn_le {s : ByteArray} {i : Nat} (h : isDg (byt s i) = true) : (rdn s i).1 ≤ 999 := by
  have hr := isDg_rng h
  unfold rdn
  split
  · rename_i h1
    have hr1 := isDg_rng h1.2
    split
    · rename_i h2
      have hr2 := isDg_rng h2
      simp only
      omega
    · simp only
      omega
  · simp only
    omega

/-- What the reading of a label says. -/
def Lbl (b : Nat) (s : ByteArray) (r : Option (Int × Nat)) (w : World) (e : Ending) (w' : World) : Prop :=
  (r = none ∧ ∃ (L : Int) (j : Nat), e = .returned (.tuple #[.int .i64 L, .bool false]) ∧ CurAt b s j w' ∧ Cx b w w') ∨
  ∃ (l : Int) (j : Nat), r = some (l, j) ∧ e = .returned (.tuple #[.int .i64 l, .bool true]) ∧ CurAt b s j w' ∧ Cx b w w'

set_option linter.unusedVariables false in
set_option linter.unusedSimpArgs false in
set_option maxHeartbeats 1000000 in
theorem readLabel_any (b : Nat) (s : ByteArray) (i : Nat) (w : World) (h : CurAt b s i w) :
    Calls Try.prog 69 #[.pointer (some ⟨b, 0, none⟩)] w (Lbl b s (rdl s i) w) := by
  have H := hid h
  clear h
  by_cases hm : byt s i = 45
  · have HP := hid (show lbp s i = i + 1 by unfold lbp; rw [if_pos hm])
    have HNX := hid (nxt_in (s := s) (i := i) (by rw [hm]; decide))
    have HM := hid hm
    have HRD := hid (show rdl s i = if isDg (byt s (i + 1)) = true then (if (rdn s (i + 1)).1 ≤ 99 then some (-((rdn s (i + 1)).1 : Int), (rdn s (i + 1)).2) else none) else none by unfold rdl; rw [HP.out]; simp only [if_pos hm])
    clear hm
    go_enter Try.func69, Try.ntmps69
    go_wp2_with fail
    refine (peek_any b s i _ H.out).mono ?_
    rw [HM.out]
    rintro e w1 ⟨rfl, hb1⟩
    have H1 := hid (H.out.below hb1)
    have X1 := hid (Cx.of_below (U := b) hb1)
    clear hb1
    go_wp2_with fail
    refine (next_any b s i _ H1.out).mono ?_
    rw [HNX.out]
    rintro e w2 ⟨rfl, hc2, hx2⟩
    have H2 := hid hc2
    have X2 := hid (X1.out.trans hx2)
    clear hc2 hx2
    go_wp2_with fail
    refine (peek_any b s (i + 1) _ H2.out).mono ?_
    rintro e w3 ⟨rfl, hb3⟩
    have H3 := hid (H2.out.below hb3)
    have X3 := hid (X2.out.trans (Cx.of_below hb3))
    clear hb3
    go_wp2_with fail
    refine (isDigit_any _ _).mono ?_
    cases hdg : isDg (byt s (i + 1)) with
    | false =>
      rintro e w4 ⟨rfl, hb4⟩
      have H4 := hid (H3.out.below hb4)
      have X4 := hid (X3.out.trans (Cx.of_below hb4))
      have HR := hid (show rdl s i = none by rw [HRD.out, hdg]; rfl)
      clear hb4 hdg
      go_wp2_with fail
      exact bodyPost_ret (v := .tuple #[.int .i64 0, .bool false]) (by simp [results, Try.results69, go_sem]) rfl (.inl ⟨HR.out, _, _, rfl, H4.out, X4.out⟩)
    | true =>
      rintro e w4 ⟨rfl, hb4⟩
      have H4 := hid (H3.out.below hb4)
      have X4 := hid (X3.out.trans (Cx.of_below hb4))
      have HN := hid (readNumber_any b s (i + 1) w4 H4.out hdg)
      have HR := hid (show rdl s i = if (rdn s (i + 1)).1 ≤ 99 then some (-((rdn s (i + 1)).1 : Int), (rdn s (i + 1)).2) else none by rw [HRD.out, hdg]; rfl)
      have hle := rdn_le hdg
      generalize rdn s (i + 1) = R at *
      clear hb4 hdg
      go_wp2_with fail
      refine HN.out.mono ?_
      rintro e w5 ⟨rfl, hc5, hx5⟩
      have H5 := hid hc5
      have X5 := hid (X4.out.trans hx5)
      have hw : IntKind.i64.wrap (-1 * (R.1 : Int)) = -(R.1 : Int) := by rw [IntKind.wrap_i64]; omega
      have hw2 : IntKind.i64.wrap (-(R.1 : Int)) = -(R.1 : Int) := by rw [IntKind.wrap_i64]; omega
      clear hc5 hx5
      go_wp2_with fail
      by_cases h99 : R.1 ≤ 99
      · have HRR := hid (show rdl s i = some (-(R.1 : Int), R.2) by rw [HR.out, if_pos h99])
        exact bodyPost_ret (v := .tuple #[.int .i64 (-(R.1 : Int)), .bool true]) (by simp [results, Try.results69, go_sem, h99]) rfl (.inr ⟨_, _, HRR.out, rfl, H5.out, X5.out⟩)
      · have HRR := hid (show rdl s i = none by rw [HR.out, if_neg h99])
        exact bodyPost_ret (v := .tuple #[.int .i64 (-(R.1 : Int)), .bool false]) (by simp [results, Try.results69, go_sem, h99]) rfl (.inl ⟨HRR.out, _, _, rfl, H5.out, X5.out⟩)
  · have HP := hid (show lbp s i = i by unfold lbp; rw [if_neg hm])
    have HRD := hid (show rdl s i = if isDg (byt s i) = true then (if (rdn s i).1 ≤ 99 then some (((rdn s i).1 : Int), (rdn s i).2) else none) else none by unfold rdl; rw [HP.out]; simp only [if_neg hm])
    have q45 : ((byt s i : Int) == 45) = false := by simp; omega
    clear hm
    go_enter Try.func69, Try.ntmps69
    go_wp2_with fail
    refine (peek_any b s i _ H.out).mono ?_
    rintro e w1 ⟨rfl, hb1⟩
    have H2 := hid (H.out.below hb1)
    have X2 := hid (Cx.of_below (U := b) hb1)
    clear hb1
    go_wp2_with fail
    refine (peek_any b s i _ H2.out).mono ?_
    rintro e w3 ⟨rfl, hb3⟩
    have H3 := hid (H2.out.below hb3)
    have X3 := hid (X2.out.trans (Cx.of_below hb3))
    clear hb3
    go_wp2_with fail
    refine (isDigit_any _ _).mono ?_
    cases hdg : isDg (byt s i) with
    | false =>
      rintro e w4 ⟨rfl, hb4⟩
      have H4 := hid (H3.out.below hb4)
      have X4 := hid (X3.out.trans (Cx.of_below hb4))
      have HR := hid (show rdl s i = none by rw [HRD.out, hdg]; rfl)
      clear hb4 hdg
      go_wp2_with fail
      exact bodyPost_ret (v := .tuple #[.int .i64 0, .bool false]) (by simp [results, Try.results69, go_sem]) rfl (.inl ⟨HR.out, _, _, rfl, H4.out, X4.out⟩)
    | true =>
      rintro e w4 ⟨rfl, hb4⟩
      have H4 := hid (H3.out.below hb4)
      have X4 := hid (X3.out.trans (Cx.of_below hb4))
      have HN := hid (readNumber_any b s i w4 H4.out hdg)
      have HR := hid (show rdl s i = if (rdn s i).1 ≤ 99 then some (((rdn s i).1 : Int), (rdn s i).2) else none by rw [HRD.out, hdg]; rfl)
      have hle := rdn_le hdg
      generalize rdn s i = R at *
      clear hb4 hdg
      go_wp2_with fail
      refine HN.out.mono ?_
      rintro e w5 ⟨rfl, hc5, hx5⟩
      have H5 := hid hc5
      have X5 := hid (X4.out.trans hx5)
      have hw : IntKind.i64.wrap (1 * (R.1 : Int)) = (R.1 : Int) := by rw [IntKind.wrap_i64]; omega
      have hw2 : IntKind.i64.wrap ((R.1 : Int)) = (R.1 : Int) := by rw [IntKind.wrap_i64]; omega
      clear hc5 hx5
      go_wp2_with fail
      by_cases h99 : R.1 ≤ 99
      · have HRR := hid (show rdl s i = some ((R.1 : Int), R.2) by rw [HR.out, if_pos h99])
        exact bodyPost_ret (v := .tuple #[.int .i64 ((R.1 : Int)), .bool true]) (by simp [results, Try.results69, go_sem, h99]) rfl (.inr ⟨_, _, HRR.out, rfl, H5.out, X5.out⟩)
      · have HRR := hid (show rdl s i = none by rw [HR.out, if_neg h99])
        exact bodyPost_ret (v := .tuple #[.int .i64 ((R.1 : Int)), .bool false]) (by simp [results, Try.results69, go_sem, h99]) rfl (.inl ⟨HRR.out, _, _, rfl, H5.out, X5.out⟩)
end Go.Proofs.Ytgekfnodmgkdaaa
