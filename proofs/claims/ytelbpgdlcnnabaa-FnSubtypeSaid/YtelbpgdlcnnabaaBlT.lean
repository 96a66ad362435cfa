/- SubPositive, SubNegative, Subtype: the specification's and the program's. -/
import Derived.Test.YtelbpgdlcnnabaaBlS
import Derived.Test.YtelbpgdlcnnabaaBlI
namespace Go.Proofs.Ytelbpgdlcnnabaa
open Go.RowKit

set_option maxHeartbeats 400000 in
theorem specSubPositive (t u : Ty) (v1 v2 : Value) (f1 f2 : List Nat) (w : World) (h1 : t.At w v1 f1) (h2 : u.At w v2 f2) :
    Calls Try.prog 49 #[v1, v2] w fun e w' => e = .returned (.bool (subOf 1 t u)) ∧ Below w.heap.size w w' := by
  obtain ⟨k, m, a, cap, rfl⟩ := h1.agg
  obtain ⟨k', m', a', cap', rfl⟩ := h2.agg
  have hB : Below w.heap.size w ((w.alloc (Obj.cells #[.int .i64 k, .slice a m cap] 25)).alloc (Obj.cells #[.int .i64 k', .slice a' m' cap'] 25)) := ((Below.refl _ _).alloc (Nat.le_refl _) _).alloc (by simp) _
  have g1 := h1.below hB
  have g2 := h2.below hB
  cases hv : vld t with
  | false =>
    have HT := hid (show subOf 1 t u = false by simp [subOf, hv])
    have HV := hid hv
    clear hv
    go_enter Try.func49, Try.ntmps49
    go_wp2_with fail
    refine (specTypeValid_any t _ _ _ g1).mono ?_
    rintro e w1 ⟨he, hb⟩
    rw [HV.out] at he
    subst he
    go_wp2_with fail
    go_ret
    exact ⟨ret_b HT.out.symm, alloc2 hb⟩
  | true =>
  cases hv2 : vld u with
  | false =>
    have HT := hid (show subOf 1 t u = false by simp [subOf, hv2])
    have HV := hid hv
    have HV2 := hid hv2
    clear hv hv2
    go_enter Try.func49, Try.ntmps49
    go_wp2_with fail
    refine (specTypeValid_any t _ _ _ g1).mono ?_
    rintro e w1 ⟨he, hb⟩
    rw [HV.out] at he
    subst he
    obtain ⟨x0, x1, x2, x3⟩ := box_cells2 hb
    go_wp2_with fail
    refine (specTypeValid_any u _ _ _ (g2.below hb)).mono ?_
    rintro e w2 ⟨he, hb2⟩
    rw [HV2.out] at he
    subst he
    go_wp2_with fail
    go_ret
    exact ⟨ret_b HT.out.symm, below_trans (alloc2 hb) hb2⟩
  | true =>
    have HT := hid (show subOf 1 t u = sub 4 1 t u by simp [subOf, hv, hv2])
    have hw1 : shp 4 t = true := hv
    have hw2 : shp 4 u = true := hv2
    have HV := hid hv
    have HV2 := hid hv2
    clear hv hv2
    go_enter Try.func49, Try.ntmps49
    go_wp2_with fail
    refine (specTypeValid_any t _ _ _ g1).mono ?_
    rintro e w1 ⟨he, hb⟩
    rw [HV.out] at he
    subst he
    obtain ⟨x0, x1, x2, x3⟩ := box_cells2 hb
    go_wp2_with fail
    refine (specTypeValid_any u _ _ _ (g2.below hb)).mono ?_
    rintro e w2 ⟨he, hb2⟩
    rw [HV2.out] at he
    subst he
    replace x0 := cell_keep x0 hb2
    replace x1 := cell_keep x1 hb2
    replace x2 := cell_keep x2 hb2
    replace x3 := cell_keep x3 hb2
    go_wp2_with fail
    refine ((pn_any 4 (by omega)).1 t u _ _ _ _ _ hw1 hw2 ((g1.below hb).below hb2) ((g2.below hb).below hb2)).mono ?_
    rintro e w3 ⟨rfl, hb3⟩
    have HT2 := HT.out
    generalize sub 4 1 t u = r at *
    have HT3 := hid HT2
    clear HT2 HT
    go_wp2_with fail
    go_ret
    exact ⟨ret_b HT3.out.symm, below_trans (below_trans (alloc2 hb) hb2) hb3⟩

set_option maxHeartbeats 400000 in
theorem specSubNegative (t u : Ty) (v1 v2 : Value) (f1 f2 : List Nat) (w : World) (h1 : t.At w v1 f1) (h2 : u.At w v2 f2) :
    Calls Try.prog 50 #[v1, v2] w fun e w' => e = .returned (.bool (subOf (-1) t u)) ∧ Below w.heap.size w w' := by
  obtain ⟨k, m, a, cap, rfl⟩ := h1.agg
  obtain ⟨k', m', a', cap', rfl⟩ := h2.agg
  have hB : Below w.heap.size w ((w.alloc (Obj.cells #[.int .i64 k, .slice a m cap] 25)).alloc (Obj.cells #[.int .i64 k', .slice a' m' cap'] 25)) := ((Below.refl _ _).alloc (Nat.le_refl _) _).alloc (by simp) _
  have g1 := h1.below hB
  have g2 := h2.below hB
  cases hv : vld t with
  | false =>
    have HT := hid (show subOf (-1) t u = false by simp [subOf, hv])
    have HV := hid hv
    clear hv
    go_enter Try.func50, Try.ntmps50
    go_wp2_with fail
    refine (specTypeValid_any t _ _ _ g1).mono ?_
    rintro e w1 ⟨he, hb⟩
    rw [HV.out] at he
    subst he
    go_wp2_with fail
    go_ret
    exact ⟨ret_b HT.out.symm, alloc2 hb⟩
  | true =>
  cases hv2 : vld u with
  | false =>
    have HT := hid (show subOf (-1) t u = false by simp [subOf, hv2])
    have HV := hid hv
    have HV2 := hid hv2
    clear hv hv2
    go_enter Try.func50, Try.ntmps50
    go_wp2_with fail
    refine (specTypeValid_any t _ _ _ g1).mono ?_
    rintro e w1 ⟨he, hb⟩
    rw [HV.out] at he
    subst he
    obtain ⟨x0, x1, x2, x3⟩ := box_cells2 hb
    go_wp2_with fail
    refine (specTypeValid_any u _ _ _ (g2.below hb)).mono ?_
    rintro e w2 ⟨he, hb2⟩
    rw [HV2.out] at he
    subst he
    go_wp2_with fail
    go_ret
    exact ⟨ret_b HT.out.symm, below_trans (alloc2 hb) hb2⟩
  | true =>
    have HT := hid (show subOf (-1) t u = sub 4 (-1) t u by simp [subOf, hv, hv2])
    have hw1 : shp 4 t = true := hv
    have hw2 : shp 4 u = true := hv2
    have HV := hid hv
    have HV2 := hid hv2
    clear hv hv2
    go_enter Try.func50, Try.ntmps50
    go_wp2_with fail
    refine (specTypeValid_any t _ _ _ g1).mono ?_
    rintro e w1 ⟨he, hb⟩
    rw [HV.out] at he
    subst he
    obtain ⟨x0, x1, x2, x3⟩ := box_cells2 hb
    go_wp2_with fail
    refine (specTypeValid_any u _ _ _ (g2.below hb)).mono ?_
    rintro e w2 ⟨he, hb2⟩
    rw [HV2.out] at he
    subst he
    replace x0 := cell_keep x0 hb2
    replace x1 := cell_keep x1 hb2
    replace x2 := cell_keep x2 hb2
    replace x3 := cell_keep x3 hb2
    go_wp2_with fail
    refine ((pn_any 4 (by omega)).2 t u _ _ _ _ _ hw1 hw2 ((g1.below hb).below hb2) ((g2.below hb).below hb2)).mono ?_
    rintro e w3 ⟨rfl, hb3⟩
    have HT2 := HT.out
    generalize sub 4 (-1) t u = r at *
    have HT3 := hid HT2
    clear HT2 HT
    go_wp2_with fail
    go_ret
    exact ⟨ret_b HT3.out.symm, below_trans (below_trans (alloc2 hb) hb2) hb3⟩

set_option maxHeartbeats 400000 in
theorem specSubtype (t u : Ty) (v1 v2 : Value) (f1 f2 : List Nat) (w : World) (h1 : t.At w v1 f1) (h2 : u.At w v2 f2) :
    Calls Try.prog 48 #[v1, v2] w fun e w' => e = .returned (.bool (subOf 0 t u)) ∧ Below w.heap.size w w' := by
  obtain ⟨k, m, a, cap, rfl⟩ := h1.agg
  obtain ⟨k', m', a', cap', rfl⟩ := h2.agg
  have hB : Below w.heap.size w ((w.alloc (Obj.cells #[.int .i64 k, .slice a m cap] 25)).alloc (Obj.cells #[.int .i64 k', .slice a' m' cap'] 25)) := ((Below.refl _ _).alloc (Nat.le_refl _) _).alloc (by simp) _
  have g1 := h1.below hB
  have g2 := h2.below hB
  cases hv : vld t with
  | false =>
    have HT := hid (show subOf 0 t u = false by simp [subOf, hv])
    have HV := hid hv
    clear hv
    go_enter Try.func48, Try.ntmps48
    go_wp2_with fail
    refine (specTypeValid_any t _ _ _ g1).mono ?_
    rintro e w1 ⟨he, hb⟩
    rw [HV.out] at he
    subst he
    go_wp2_with fail
    go_ret
    exact ⟨ret_b HT.out.symm, alloc2 hb⟩
  | true =>
  cases hv2 : vld u with
  | false =>
    have HT := hid (show subOf 0 t u = false by simp [subOf, hv2])
    have HV := hid hv
    have HV2 := hid hv2
    clear hv hv2
    go_enter Try.func48, Try.ntmps48
    go_wp2_with fail
    refine (specTypeValid_any t _ _ _ g1).mono ?_
    rintro e w1 ⟨he, hb⟩
    rw [HV.out] at he
    subst he
    obtain ⟨x0, x1, x2, x3⟩ := box_cells2 hb
    go_wp2_with fail
    refine (specTypeValid_any u _ _ _ (g2.below hb)).mono ?_
    rintro e w2 ⟨he, hb2⟩
    rw [HV2.out] at he
    subst he
    go_wp2_with fail
    go_ret
    exact ⟨ret_b HT.out.symm, below_trans (alloc2 hb) hb2⟩
  | true =>
    have HT := hid (show subOf 0 t u = sub 4 0 t u by simp [subOf, hv, hv2])
    have hw1 : shp 4 t = true := hv
    have hw2 : shp 4 u = true := hv2
    have HV := hid hv
    have HV2 := hid hv2
    clear hv hv2
    go_enter Try.func48, Try.ntmps48
    go_wp2_with fail
    refine (specTypeValid_any t _ _ _ g1).mono ?_
    rintro e w1 ⟨he, hb⟩
    rw [HV.out] at he
    subst he
    obtain ⟨x0, x1, x2, x3⟩ := box_cells2 hb
    go_wp2_with fail
    refine (specTypeValid_any u _ _ _ (g2.below hb)).mono ?_
    rintro e w2 ⟨he, hb2⟩
    rw [HV2.out] at he
    subst he
    replace x0 := cell_keep x0 hb2
    replace x1 := cell_keep x1 hb2
    replace x2 := cell_keep x2 hb2
    replace x3 := cell_keep x3 hb2
    go_wp2_with fail
    refine (su_any 4 (by omega) t u _ _ _ _ _ hw1 hw2 ((g1.below hb).below hb2) ((g2.below hb).below hb2)).mono ?_
    rintro e w3 ⟨rfl, hb3⟩
    have HT2 := HT.out
    generalize sub 4 0 t u = r at *
    have HT3 := hid HT2
    clear HT2 HT
    go_wp2_with fail
    go_ret
    exact ⟨ret_b HT3.out.symm, below_trans (below_trans (alloc2 hb) hb2) hb3⟩

set_option maxHeartbeats 400000 in
theorem relates_any (p : Int) (hp : pol p) (t u : Ty) (v1 v2 : Value) (f1 f2 : List Nat) (w : World) (h1 : t.At w v1 f1) (h2 : u.At w v2 f2) :
    Calls Try.prog 92 #[.int .i64 p, v1, v2] w fun e w' => e = .returned (.bool (subOf p t u)) ∧ Below w.heap.size w w' := by
  have HPL := hid hp
  clear hp
  obtain ⟨k, m, a, cap, rfl⟩ := h1.agg
  obtain ⟨k', m', a', cap', rfl⟩ := h2.agg
  have hB : Below w.heap.size w ((w.alloc (Obj.cells #[.int .i64 k, .slice a m cap] 25)).alloc (Obj.cells #[.int .i64 k', .slice a' m' cap'] 25)) := ((Below.refl _ _).alloc (Nat.le_refl _) _).alloc (by simp) _
  have g1 := h1.below hB
  have g2 := h2.below hB
  cases hv : vld t with
  | false =>
    have HT := hid (show subOf p t u = false by simp [subOf, hv])
    have HV := hid hv
    clear hv
    go_enter Try.func92, Try.ntmps92
    go_wp2_with fail
    refine (implTypeValid_any t _ _ _ g1).mono ?_
    rintro e w1 ⟨he, hb⟩
    rw [HV.out] at he
    subst he
    go_wp2_with fail
    go_ret
    exact ⟨ret_b HT.out.symm, alloc2 hb⟩
  | true =>
  cases hv2 : vld u with
  | false =>
    have HT := hid (show subOf p t u = false by simp [subOf, hv2])
    have HV := hid hv
    have HV2 := hid hv2
    clear hv hv2
    go_enter Try.func92, Try.ntmps92
    go_wp2_with fail
    refine (implTypeValid_any t _ _ _ g1).mono ?_
    rintro e w1 ⟨he, hb⟩
    rw [HV.out] at he
    subst he
    obtain ⟨x0, x1, x2, x3⟩ := box_cells2 hb
    go_wp2_with fail
    refine (implTypeValid_any u _ _ _ (g2.below hb)).mono ?_
    rintro e w2 ⟨he, hb2⟩
    rw [HV2.out] at he
    subst he
    go_wp2_with fail
    go_ret
    exact ⟨ret_b HT.out.symm, below_trans (alloc2 hb) hb2⟩
  | true =>
    have HT := hid (show subOf p t u = sub 4 p t u by simp [subOf, hv, hv2])
    have hw1 : shp 4 t = true := hv
    have hw2 : shp 4 u = true := hv2
    have HV := hid hv
    have HV2 := hid hv2
    clear hv hv2
    go_enter Try.func92, Try.ntmps92
    go_wp2_with fail
    refine (implTypeValid_any t _ _ _ g1).mono ?_
    rintro e w1 ⟨he, hb⟩
    rw [HV.out] at he
    subst he
    obtain ⟨x0, x1, x2, x3⟩ := box_cells2 hb
    go_wp2_with fail
    refine (implTypeValid_any u _ _ _ (g2.below hb)).mono ?_
    rintro e w2 ⟨he, hb2⟩
    rw [HV2.out] at he
    subst he
    replace x0 := cell_keep x0 hb2
    replace x1 := cell_keep x1 hb2
    replace x2 := cell_keep x2 hb2
    replace x3 := cell_keep x3 hb2
    go_wp2_with fail
    refine (hol_any 4 p t u _ _ _ _ _ HPL.out hw1 hw2 ((g1.below hb).below hb2) ((g2.below hb).below hb2)).mono ?_
    rintro e w3 ⟨rfl, hb3⟩
    have HT2 := HT.out
    generalize sub 4 p t u = r at *
    have HT3 := hid HT2
    clear HT2 HT
    go_wp2_with fail
    go_ret
    exact ⟨ret_b HT3.out.symm, below_trans (below_trans (alloc2 hb) hb2) hb3⟩

set_option maxHeartbeats 400000 in
theorem implSubPositive (t u : Ty) (v1 v2 : Value) (f1 f2 : List Nat) (w : World) (h1 : t.At w v1 f1) (h2 : u.At w v2 f2) :
    Calls Try.prog 46 #[v1, v2] w fun e w' => e = .returned (.bool (subOf 1 t u)) ∧ Below w.heap.size w w' := by
  obtain ⟨k, m, a, cap, rfl⟩ := h1.agg
  obtain ⟨k', m', a', cap', rfl⟩ := h2.agg
  have hB : Below w.heap.size w ((w.alloc (Obj.cells #[.int .i64 k, .slice a m cap] 25)).alloc (Obj.cells #[.int .i64 k', .slice a' m' cap'] 25)) := ((Below.refl _ _).alloc (Nat.le_refl _) _).alloc (by simp) _
  have g1 := h1.below hB
  have g2 := h2.below hB
  generalize hr : subOf 1 t u = r at *
  have HR := hid hr
  clear hr
  go_enter Try.func46, Try.ntmps46
  go_wp2_with fail
  refine (relates_any 1 (by unfold pol; omega) t u _ _ _ _ _ g1 g2).mono ?_
  rw [HR.out]
  rintro e w1 ⟨rfl, hb⟩
  go_wp2_with fail
  go_ret
  exact ⟨rfl, alloc2 hb⟩

set_option maxHeartbeats 400000 in
theorem implSubNegative (t u : Ty) (v1 v2 : Value) (f1 f2 : List Nat) (w : World) (h1 : t.At w v1 f1) (h2 : u.At w v2 f2) :
    Calls Try.prog 47 #[v1, v2] w fun e w' => e = .returned (.bool (subOf (-1) t u)) ∧ Below w.heap.size w w' := by
  obtain ⟨k, m, a, cap, rfl⟩ := h1.agg
  obtain ⟨k', m', a', cap', rfl⟩ := h2.agg
  have hB : Below w.heap.size w ((w.alloc (Obj.cells #[.int .i64 k, .slice a m cap] 25)).alloc (Obj.cells #[.int .i64 k', .slice a' m' cap'] 25)) := ((Below.refl _ _).alloc (Nat.le_refl _) _).alloc (by simp) _
  have g1 := h1.below hB
  have g2 := h2.below hB
  generalize hr : subOf (-1) t u = r at *
  have HR := hid hr
  clear hr
  go_enter Try.func47, Try.ntmps47
  go_wp2_with fail
  refine (relates_any (-1) (by unfold pol; omega) t u _ _ _ _ _ g1 g2).mono ?_
  rw [HR.out]
  rintro e w1 ⟨rfl, hb⟩
  go_wp2_with fail
  go_ret
  exact ⟨rfl, alloc2 hb⟩

set_option maxHeartbeats 400000 in
theorem implSubtype (t u : Ty) (v1 v2 : Value) (f1 f2 : List Nat) (w : World) (h1 : t.At w v1 f1) (h2 : u.At w v2 f2) :
    Calls Try.prog 45 #[v1, v2] w fun e w' => e = .returned (.bool (subOf 0 t u)) ∧ Below w.heap.size w w' := by
  obtain ⟨k, m, a, cap, rfl⟩ := h1.agg
  obtain ⟨k', m', a', cap', rfl⟩ := h2.agg
  have hB : Below w.heap.size w ((w.alloc (Obj.cells #[.int .i64 k, .slice a m cap] 25)).alloc (Obj.cells #[.int .i64 k', .slice a' m' cap'] 25)) := ((Below.refl _ _).alloc (Nat.le_refl _) _).alloc (by simp) _
  have g1 := h1.below hB
  have g2 := h2.below hB
  generalize hr : subOf 0 t u = r at *
  have HR := hid hr
  clear hr
  go_enter Try.func45, Try.ntmps45
  go_wp2_with fail
  refine (relates_any 0 (by unfold pol; omega) t u _ _ _ _ _ g1 g2).mono ?_
  rw [HR.out]
  rintro e w1 ⟨rfl, hb⟩
  go_wp2_with fail
  go_ret
  exact ⟨rfl, alloc2 hb⟩

end Go.Proofs.Ytelbpgdlcnnabaa