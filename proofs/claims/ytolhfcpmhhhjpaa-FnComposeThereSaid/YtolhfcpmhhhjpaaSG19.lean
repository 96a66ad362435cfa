/- The program's Consistent and Precise. Consistent and Precise of the specification; those of the program. -/
import Derived.Test.YtolhfcpmhhhjpaaSWalkB
import Derived.Test.YtolhfcpmhhhjpaaSG1
namespace Go.Proofs.Ytolhfcpmhhhjpaa
open Go.RowKit

set_option maxRecDepth 100000 in
theorem callOk_either : CallOk 75 := fun _ _ => by kernel_rfl
set_option maxHeartbeats 400000 in
theorem either_any : ApC 75 eitherB := by
  intro t u v1 v2 f1 f2 w h1 h2
  obtain ⟨k, ts, rfl⟩ := t.shape
  obtain ⟨k', us, rfl⟩ := u.shape
  obtain ⟨s1, rfl, hs1⟩ := Ty.at_mk.1 h1
  obtain ⟨s2, rfl, hs2⟩ := Ty.at_mk.1 h2
  obtain ⟨a, cap, rfl⟩ := hs1.shape
  obtain ⟨a2, cap2, rfl⟩ := hs2.shape
  have hal : Below w.heap.size w ((w.alloc (Obj.cells #[.int .i64 k, .slice a ts.length cap] 25)).alloc (Obj.cells #[.int .i64 k', .slice a2 us.length cap2] 25)) := ((Below.refl _ _).alloc (Nat.le_refl _) _).alloc (by simp) _
  have HAL := hid hal
  have HT := hid (show eitherB (.mk k ts) (.mk k' us) = ((k == 1) || (k' == 1)) from rfl)
  clear hal h1 h2 hs1 hs2
  by_cases hk : k = 1
  · subst hk
    go_enter Try.func75, Try.ntmps75
    go_wp2_with fail
    go_ret
    exact ⟨ret_b (by rw [HT.out]; rfl), HAL.out⟩
  · have hk1 : (k == 1) = false := by simpa using hk
    clear hk
    go_enter Try.func75, Try.ntmps75
    go_wp2_with fail
    go_ret
    exact ⟨ret_b (by rw [HT.out, hk1, Bool.false_or]), HAL.out⟩

def consOf (t u : Ty) : Bool := vld t && vld u && cons t u
set_option maxHeartbeats 400000 in
theorem implConsistent (t u : Ty) (v1 v2 : Value) (f1 f2 : List Nat) (w : World) (h1 : t.At w v1 f1) (h2 : u.At w v2 f2) :
    Calls Try.prog 37 #[v1, v2] w fun e w' => e = .returned (.bool (consOf t u)) ∧ Below w.heap.size w w' := by
  obtain ⟨k, m, a, cap, rfl⟩ := h1.agg
  obtain ⟨k', m', a', cap', rfl⟩ := h2.agg
  have hB : Below w.heap.size w ((w.alloc (Obj.cells #[.int .i64 k, .slice a m cap] 25)).alloc (Obj.cells #[.int .i64 k', .slice a' m' cap'] 25)) := ((Below.refl _ _).alloc (Nat.le_refl _) _).alloc (by simp) _
  have g1 := h1.below hB
  have g2 := h2.below hB
  cases hv : vld t with
  | false =>
    have HT := hid (show consOf t u = false by simp [consOf, hv])
    have HV := hid hv
    clear hv
    go_enter Try.func37, Try.ntmps37
    go_wp2_with fail
    refine (implTypeValid_any t _ _ _ g1).mono ?_
    rintro e w1 ⟨he, hb⟩
    rw [HV.out] at he
    subst he
    go_wp2_with fail
    go_ret
    exact ⟨ret_b HT.out.symm, alloc2 hb⟩
  | true =>
  cases hv2 : vld u with
  | false =>
    have HT := hid (show consOf t u = false by simp [consOf, hv2])
    have HV := hid hv
    have HV2 := hid hv2
    clear hv hv2
    go_enter Try.func37, Try.ntmps37
    go_wp2_with fail
    refine (implTypeValid_any t _ _ _ g1).mono ?_
    rintro e w1 ⟨he, hb⟩
    rw [HV.out] at he
    subst he
    obtain ⟨x0, x1, x2, x3⟩ := box_cells2 hb
    go_wp2_with fail
    refine (implTypeValid_any u _ _ _ (g2.below hb)).mono ?_
    rintro e w2 ⟨he, hb2⟩
    rw [HV2.out] at he
    subst he
    go_wp2_with fail
    go_ret
    exact ⟨ret_b HT.out.symm, below_trans (alloc2 hb) hb2⟩
  | true =>
    have HT := hid (show consOf t u = cons t u by simp [consOf, hv, hv2])
    have hw1 := wf_of_vld hv
    have hw2 := wf_of_vld hv2
    have HV := hid hv
    have HV2 := hid hv2
    clear hv hv2
    go_enter Try.func37, Try.ntmps37
    go_wp2_with fail
    refine (implTypeValid_any t _ _ _ g1).mono ?_
    rintro e w1 ⟨he, hb⟩
    rw [HV.out] at he
    subst he
    obtain ⟨x0, x1, x2, x3⟩ := box_cells2 hb
    go_wp2_with fail
    refine (implTypeValid_any u _ _ _ (g2.below hb)).mono ?_
    rintro e w2 ⟨he, hb2⟩
    rw [HV2.out] at he
    subst he
    replace x0 := cell_keep x0 hb2
    replace x1 := cell_keep x1 hb2
    replace x2 := cell_keep x2 hb2
    replace x3 := cell_keep x3 hb2
    go_wp2_with fail
    refine (walkB_any _ _ either_any callOk_either t u _ _ _ _ _ ((g1.below hb).below hb2) ((g2.below hb).below hb2) hw1 hw2).mono ?_
    rintro e w3 ⟨rfl, hb3⟩
    have HT2 := HT.out
    try rw [wkB_cons]
    try rw [wkB_prec]
    generalize cons t u = r at *
    have HT3 := hid HT2
    clear HT2 HT
    go_wp2_with fail
    go_ret
    exact ⟨ret_b HT3.out.symm, below_trans (below_trans (alloc2 hb) hb2) hb3⟩

end Go.Proofs.Ytolhfcpmhhhjpaa

namespace Go.Proofs.Ytolhfcpmhhhjpaa
open Go.RowKit

set_option maxHeartbeats 400000 in
theorem specConsistent (t u : Ty) (v1 v2 : Value) (f1 f2 : List Nat) (w : World) (h1 : t.At w v1 f1) (h2 : u.At w v2 f2) :
    Calls Try.prog 40 #[v1, v2] w fun e w' => e = .returned (.bool (consOf t u)) ∧ Below w.heap.size w w' := by
  obtain ⟨k, m, a, cap, rfl⟩ := h1.agg
  obtain ⟨k', m', a', cap', rfl⟩ := h2.agg
  have hB : Below w.heap.size w ((w.alloc (Obj.cells #[.int .i64 k, .slice a m cap] 25)).alloc (Obj.cells #[.int .i64 k', .slice a' m' cap'] 25)) := ((Below.refl _ _).alloc (Nat.le_refl _) _).alloc (by simp) _
  have g1 := h1.below hB
  have g2 := h2.below hB
  cases hv : vld t with
  | false =>
    have HT := hid (show consOf t u = false by simp [consOf, hv])
    have HV := hid hv
    clear hv
    go_enter Try.func40, Try.ntmps40
    go_wp2_with fail
    refine (specTypeValid_any t _ _ _ g1).mono ?_
    rintro e w1 ⟨he, hb⟩
    rw [HV.out] at he
    subst he
    go_wp2_with fail
    go_ret
    exact ⟨ret_b HT.out.symm, alloc2 hb⟩
  | true =>
  cases hv2 : vld u with
  | false =>
    have HT := hid (show consOf t u = false by simp [consOf, hv2])
    have HV := hid hv
    have HV2 := hid hv2
    clear hv hv2
    go_enter Try.func40, Try.ntmps40
    go_wp2_with fail
    refine (specTypeValid_any t _ _ _ g1).mono ?_
    rintro e w1 ⟨he, hb⟩
    rw [HV.out] at he
    subst he
    obtain ⟨x0, x1, x2, x3⟩ := box_cells2 hb
    go_wp2_with fail
    refine (specTypeValid_any u _ _ _ (g2.below hb)).mono ?_
    rintro e w2 ⟨he, hb2⟩
    rw [HV2.out] at he
    subst he
    go_wp2_with fail
    go_ret
    exact ⟨ret_b HT.out.symm, below_trans (alloc2 hb) hb2⟩
  | true =>
    have HT := hid (show consOf t u = cons t u by simp [consOf, hv, hv2])
    have hw1 := wf_of_vld hv
    have hw2 := wf_of_vld hv2
    have HV := hid hv
    have HV2 := hid hv2
    clear hv hv2
    go_enter Try.func40, Try.ntmps40
    go_wp2_with fail
    refine (specTypeValid_any t _ _ _ g1).mono ?_
    rintro e w1 ⟨he, hb⟩
    rw [HV.out] at he
    subst he
    obtain ⟨x0, x1, x2, x3⟩ := box_cells2 hb
    go_wp2_with fail
    refine (specTypeValid_any u _ _ _ (g2.below hb)).mono ?_
    rintro e w2 ⟨he, hb2⟩
    rw [HV2.out] at he
    subst he
    replace x0 := cell_keep x0 hb2
    replace x1 := cell_keep x1 hb2
    replace x2 := cell_keep x2 hb2
    replace x3 := cell_keep x3 hb2
    go_wp2_with fail
    refine (l1Consistent_any t u _ _ _ _ _ ((g1.below hb).below hb2) ((g2.below hb).below hb2) hw1 hw2).mono ?_
    rintro e w3 ⟨rfl, hb3⟩
    have HT2 := HT.out
    try rw [wkB_cons]
    try rw [wkB_prec]
    generalize cons t u = r at *
    have HT3 := hid HT2
    clear HT2 HT
    go_wp2_with fail
    go_ret
    exact ⟨ret_b HT3.out.symm, below_trans (below_trans (alloc2 hb) hb2) hb3⟩

end Go.Proofs.Ytolhfcpmhhhjpaa
