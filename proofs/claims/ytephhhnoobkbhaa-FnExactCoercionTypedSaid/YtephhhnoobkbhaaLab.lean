/- Labels: the specification's test and the program's; a field's test. -/
import Derived.Test.YtephhhnoobkbhaaTy
namespace Go.Proofs.Ytephhhnoobkbhaa
open Go.RowKit

def isLb (lb : Int) : Bool := lb != 0 && decide (-99 ≤ lb) && decide (lb ≤ 99)

def absL (lb : Int) : Int := if lb < -99 ∨ 99 < lb then 0 else if lb < 0 then -lb else lb

theorem absL_lb {lb : Int} : isLb lb = (decide (1 ≤ absL lb) && decide (absL lb ≤ 99)) := by
  unfold absL isLb
  by_cases h0 : lb = 0
  · subst h0; decide
  have h1 : (lb != 0) = true := by simpa using h0
  rw [h1, Bool.true_and]
  by_cases h : lb < -99 ∨ 99 < lb
  · rw [if_pos h]
    have : (decide (-99 ≤ lb) && decide (lb ≤ 99)) = false := by simp; omega
    rw [this]
    rfl
  · rw [if_neg h]
    have : (decide (-99 ≤ lb) && decide (lb ≤ 99)) = true := by simp; omega
    rw [this]
    by_cases hn : lb < 0
    · rw [if_pos hn]; simp; omega
    · rw [if_neg hn]; simp; omega

set_option maxHeartbeats 400000 in
theorem l1Abs_any (lb : Int) (w : World) : Calls Try.prog 122 #[.int .i64 lb] w fun e w' => e = .returned (.int .i64 (absL lb)) ∧ w' = w := by
  by_cases h1 : lb < -99
  · have HR := hid (show absL lb = 0 by simp [absL, h1])
    go_enter Try.func122, Try.ntmps122
    go_wp2_with fail
    go_ret
    exact ⟨ret_i HR.out.symm, rfl⟩
  by_cases h2 : 99 < lb
  · have HR := hid (show absL lb = 0 by simp [absL, h2])
    have h3 : lb > 99 := h2
    go_enter Try.func122, Try.ntmps122
    go_wp2_with fail
    go_ret
    exact ⟨ret_i HR.out.symm, rfl⟩
  have h3 : ¬ lb > 99 := h2
  have hlo : -99 ≤ lb := by omega
  have hhi : lb ≤ 99 := by omega
  by_cases hn : lb < 0
  · have HR := hid (show absL lb = -lb by simp [absL, h1, h2, hn])
    go_enter Try.func122, Try.ntmps122
    go_wp2_with fail
    go_ret
    exact ⟨ret_i HR.out.symm, rfl⟩
  · have HR := hid (show absL lb = lb by simp [absL, h1, h2, hn])
    go_enter Try.func122, Try.ntmps122
    go_wp2_with fail
    go_ret
    exact ⟨ret_i HR.out.symm, rfl⟩

set_option maxHeartbeats 400000 in
theorem isLabel_any (lb : Int) (w : World) : Calls Try.prog 88 #[.int .i64 lb] w fun e w' => e = .returned (.bool (isLb lb)) ∧ w' = w := by
  by_cases h0 : lb = 0
  · subst h0
    go_enter Try.func88, Try.ntmps88
    go_wp2_with fail
    go_ret
    exact ⟨rfl, rfl⟩
  have h1 : (lb != 0) = true := by simpa using h0
  have h2 : (lb == 0) = false := by simpa using h0
  by_cases h3 : -99 ≤ lb
  · have HR := hid (show isLb lb = decide (lb ≤ 99) by simp [isLb, h1, h3])
    clear h0
    go_enter Try.func88, Try.ntmps88
    go_wp2_with fail
    go_ret
    exact ⟨ret_b HR.out.symm, rfl⟩
  · have HR := hid (show isLb lb = false by simp [isLb, h3])
    clear h0
    go_enter Try.func88, Try.ntmps88
    go_wp2_with fail
    go_ret
    exact ⟨ret_b HR.out.symm, rfl⟩

set_option maxHeartbeats 400000 in
theorem validOrZero_any (a b c : Bool) (w : World) :
    Calls Try.prog 140 #[.bool a, .bool b, .bool c] w fun e w' => e = .returned (.bool (if a then b else c)) ∧ w' = w := by
  cases a
  all_goals
    go_enter Try.func140, Try.ntmps140
    go_wp2_with fail
    go_ret
    exact ⟨rfl, rfl⟩

theorem absL_one {lb : Int} : decide (1 ≤ absL lb) = isLb lb := by
  rw [absL_lb]
  have : absL lb ≤ 99 := by unfold absL; split <;> (try split) <;> omega
  simp [this]

theorem l6Label_any (lb : Int) (w : World) : Calls Try.prog 85 #[.int .i64 lb] w fun e w' => e = .returned (.bool (isLb lb)) ∧ w' = w := by
  have HR := hid (absL_one (lb := lb))
  go_enter Try.func85, Try.ntmps85
  go_wp2_with fail
  refine (l1Abs_any _ _).mono ?_
  rintro e w1 ⟨rfl, rfl⟩
  generalize absL lb = r at *
  go_wp2_with fail
  go_ret
  exact ⟨ret_b HR.out, rfl⟩

end Go.Proofs.Ytephhhnoobkbhaa
