/- The specification's test of a cast's fields. -/
import Derived.Test.YtnpofpjaejnejaaDoorCv
import Derived.Test.YtnpofpjaejnejaaDoorWf
import Derived.Test.YtnpofpjaejnejaaDoorCons
namespace Go.Proofs.YtnpofpjaejnejaaDoor
open Go.RowKit

def absL (lb : Int) : Int := if lb < -99 ∨ 99 < lb then 0 else if lb < 0 then -lb else lb

theorem absL_lb {lb : Int} : isLb lb = (decide (1 ≤ absL lb) && decide (absL lb ≤ 99)) := by
  unfold absL isLb
  by_cases h0 : lb = 0
  · subst h0; decide
  have h1 : (lb != 0) = true := by simpa using h0
  rw [h1, Bool.true_and]
  by_cases h : lb < -99 ∨ 99 < lb
  · rw [if_pos h]
    have : (decide (-99 ≤ lb) && decide (lb ≤ 99)) = false := by simp; omega
    rw [this]
    rfl
  · rw [if_neg h]
    have : (decide (-99 ≤ lb) && decide (lb ≤ 99)) = true := by simp; omega
    rw [this]
    by_cases hn : lb < 0
    · rw [if_pos hn]; simp; omega
    · rw [if_neg hn]; simp; omega

set_option maxHeartbeats 400000 in
theorem l1Abs_any (lb : Int) (w : World) : Calls Tryd.prog 117 #[.int .i64 lb] w fun e w' => e = .returned (.int .i64 (absL lb)) ∧ w' = w := by
  by_cases h1 : lb < -99
  · have HR := hid (show absL lb = 0 by simp [absL, h1])
    go_enter Tryd.func117, Tryd.ntmps117
    go_wp2_with fail
    go_ret
    exact ⟨ret_i HR.out.symm, rfl⟩
  by_cases h2 : 99 < lb
  · have HR := hid (show absL lb = 0 by simp [absL, h2])
    have h3 : lb > 99 := h2
    go_enter Tryd.func117, Tryd.ntmps117
    go_wp2_with fail
    go_ret
    exact ⟨ret_i HR.out.symm, rfl⟩
  have h3 : ¬ lb > 99 := h2
  have hlo : -99 ≤ lb := by omega
  have hhi : lb ≤ 99 := by omega
  by_cases hn : lb < 0
  · have HR := hid (show absL lb = -lb by simp [absL, h1, h2, hn])
    go_enter Tryd.func117, Tryd.ntmps117
    go_wp2_with fail
    go_ret
    exact ⟨ret_i HR.out.symm, rfl⟩
  · have HR := hid (show absL lb = lb by simp [absL, h1, h2, hn])
    go_enter Tryd.func117, Tryd.ntmps117
    go_wp2_with fail
    go_ret
    exact ⟨ret_i HR.out.symm, rfl⟩

set_option maxHeartbeats 2000000 in
theorem l4Own_any (k : Int) (nm : ByteArray) (num : Int) (ty fr : Ty) (lb : Int) (ts : List Tm) (v : Value) (fp : List Nat) (w : World) (hat : Tm.At w (.mk k nm num ty fr lb ts) v fp) :
    Calls Tryd.prog 88 #[v] w fun e w' => e = .returned (.bool (own4 nm num ty fr lb)) ∧ Below w.heap.size w w' := by
  obtain ⟨k1, n1, a1, c1, k2, n2, a2, c2, a3, c3, f1, f2, f3, rfl, hnm, ht1, ht2, rfl, hs⟩ := hat.parts
  have hb0 : Below w.heap.size w (w.alloc (Obj.cells #[.int .i64 k, .string nm, .int .i64 num, .int .i64 k1, .slice a1 n1 c1, .int .i64 k2, .slice a2 n2 c2, .int .i64 lb, .slice a3 ts.length c3] 35)) := (Below.refl _ _).alloc (Nat.le_refl _) _
  obtain ⟨z0, z1, z2, z3, z4, z5, z6, z7, z8⟩ := box9 (Below.refl (w.alloc (Obj.cells #[.int .i64 k, .string nm, .int .i64 num, .int .i64 k1, .slice a1 n1 c1, .int .i64 k2, .slice a2 n2 c2, .int .i64 lb, .slice a3 ts.length c3] 35)).heap.size (w.alloc (Obj.cells #[.int .i64 k, .string nm, .int .i64 num, .int .i64 k1, .slice a1 n1 c1, .int .i64 k2, .slice a2 n2 c2, .int .i64 lb, .slice a3 ts.length c3] 35)))
  have HE : Hid (own4 nm num ty fr lb = (nm.toList.isEmpty && num == 0 && isLb lb && vld ty && vld fr && cons fr ty)) := hid rfl
  have HB := hid hb0
  have HT1 := hid (ht1.below hb0)
  have HT2 := hid (ht2.below hb0)
  have HAB := hid (absL_lb (lb := lb))
  obtain ⟨ab, hab⟩ : ∃ ab, ab = absL lb := ⟨_, rfl⟩
  have HA := hid hab
  clear hat ht1 ht2 hs hb0 hab
  cases hne : nm.toList.isEmpty with
  | false =>
    have HR := hid (show own4 nm num ty fr lb = false by rw [HE.out, hne]; simp)
    go_enter Tryd.func88, Tryd.ntmps88
    go_wp2_with fail
    refine (l1Abs_any lb _).mono ?_
    rw [← HA.out]
    rintro e w1 ⟨rfl, rfl⟩
    go_wp2_with fail
    go_ret
    exact ⟨ret_b HR.out.symm, HB.out⟩
  | true =>
  by_cases hnum : num = 0
  case neg =>
    have hq : (num == 0) = false := by simpa using hnum
    have HR := hid (show own4 nm num ty fr lb = false by rw [HE.out, hq]; simp)
    clear hnum
    go_enter Tryd.func88, Tryd.ntmps88
    go_wp2_with fail
    refine (l1Abs_any lb _).mono ?_
    rw [← HA.out]
    rintro e w1 ⟨rfl, rfl⟩
    go_wp2_with fail
    go_ret
    exact ⟨ret_b HR.out.symm, HB.out⟩
  subst hnum
  have hq : ((0 : Int) == 0) = true := rfl
  by_cases h1 : 1 ≤ ab
  case neg =>
    have hq1 : decide (1 ≤ ab) = false := by simpa using h1
    have HR := hid (show own4 nm 0 ty fr lb = false by rw [HE.out, HAB.out, ← HA.out, hq1]; simp)
    go_enter Tryd.func88, Tryd.ntmps88
    go_wp2_with fail
    refine (l1Abs_any lb _).mono ?_
    rw [← HA.out]
    rintro e w1 ⟨rfl, rfl⟩
    go_wp2_with fail
    go_ret
    exact ⟨ret_b HR.out.symm, HB.out⟩
  by_cases h2 : ab ≤ 99
  case neg =>
    have hq2 : decide (ab ≤ 99) = false := by simpa using h2
    have HR := hid (show own4 nm 0 ty fr lb = false by rw [HE.out, HAB.out, ← HA.out, hq2]; simp)
    go_enter Tryd.func88, Tryd.ntmps88
    go_wp2_with fail
    refine (l1Abs_any lb _).mono ?_
    rw [← HA.out]
    rintro e w1 ⟨rfl, rfl⟩
    go_wp2_with fail
    go_ret
    exact ⟨ret_b HR.out.symm, HB.out⟩
  have HL := hid (show isLb lb = true by rw [HAB.out, ← HA.out]; simp [h1, h2])
  cases hv1 : vld ty with
  | false =>
    have HR := hid (show own4 nm 0 ty fr lb = false by rw [HE.out, hv1]; simp)
    have HV1 := hid hv1
    clear hv1
    go_enter Tryd.func88, Tryd.ntmps88
    go_wp2_with fail
    refine (l1Abs_any lb _).mono ?_
    rw [← HA.out]
    rintro e w1 ⟨rfl, rfl⟩
    go_wp2_with fail
    refine (specTypeValid_any ty _ _ _ HT1.out).mono ?_
    rw [HV1.out]
    rintro e w2 ⟨rfl, hb2⟩
    go_wp2_with fail
    go_ret
    exact ⟨ret_b HR.out.symm, below_trans HB.out hb2⟩
  | true =>
  cases hv2 : vld fr with
  | false =>
    have HR := hid (show own4 nm 0 ty fr lb = false by rw [HE.out, hv2]; simp)
    have HV1 := hid hv1
    have HV2 := hid hv2
    clear hv1 hv2
    go_enter Tryd.func88, Tryd.ntmps88
    go_wp2_with fail
    refine (l1Abs_any lb _).mono ?_
    rw [← HA.out]
    rintro e w1 ⟨rfl, rfl⟩
    go_wp2_with fail
    refine (specTypeValid_any ty _ _ _ HT1.out).mono ?_
    rw [HV1.out]
    rintro e w2 ⟨rfl, hb2⟩
    have y5 := cell_keep z5 hb2
    have y6 := cell_keep z6 hb2
    go_wp2_with fail
    refine (specTypeValid_any fr _ _ _ (HT2.out.below hb2)).mono ?_
    rw [HV2.out]
    rintro e w3 ⟨rfl, hb3⟩
    go_wp2_with fail
    go_ret
    exact ⟨ret_b HR.out.symm, below_trans HB.out (below_trans hb2 hb3)⟩
  | true =>
  have HR := hid (show own4 nm 0 ty fr lb = cons fr ty by rw [HE.out, hne, HL.out, hv1, hv2]; simp)
  have HV1 := hid hv1
  have HV2 := hid hv2
  clear hv1 hv2
  go_enter Tryd.func88, Tryd.ntmps88
  go_wp2_with fail
  refine (l1Abs_any lb _).mono ?_
  rw [← HA.out]
  rintro e w1 ⟨rfl, rfl⟩
  go_wp2_with fail
  refine (specTypeValid_any ty _ _ _ HT1.out).mono ?_
  rw [HV1.out]
  rintro e w2 ⟨rfl, hb2⟩
  have y5 := cell_keep z5 hb2
  have y6 := cell_keep z6 hb2
  go_wp2_with fail
  refine (specTypeValid_any fr _ _ _ (HT2.out.below hb2)).mono ?_
  rw [HV2.out]
  rintro e w3 ⟨rfl, hb3⟩
  have x5 := cell_keep y5 hb3
  have x6 := cell_keep y6 hb3
  have x3 := cell_keep (cell_keep z3 hb2) hb3
  have x4 := cell_keep (cell_keep z4 hb2) hb3
  clear y5 y6 z0 z1 z2 z3 z4 z5 z6 z7 z8
  go_wp2_with fail
  refine (l1Consistent_any fr ty _ _ _ _ _ ((HT2.out.below hb2).below hb3) ((HT1.out.below hb2).below hb3) (wf_of_vld HV2.out) (wf_of_vld HV1.out)).mono ?_
  rintro e w4 ⟨rfl, hb4⟩
  go_wp2_with fail
  go_ret
  exact ⟨ret_b HR.out.symm, below_trans HB.out (below_trans hb2 (below_trans hb3 hb4))⟩

end Go.Proofs.YtnpofpjaejnejaaDoor
