/- The law on SubNegative: it returns true and writes nothing that was there. -/
import Derived.Test.YtgiimijooabioaaPkA
import Derived.Test.YtgiimijooabioaaBlT
import Derived.Deep.RegionHeld3
namespace Go.Proofs.Ytgiimijooabioaa
open Go.RowKit

set_option maxHeartbeats 1600000 in
theorem lawSubNegative (t : Ty) (v1 : Value) (fp1 : List Nat) (u : Ty) (v2 : Value) (fp2 : List Nat) (w : World) (hat : t.At w v1 fp1) (hau : u.At w v2 fp2) :
    Calls Try.prog 4 #[v1, v2] w fun e w' => e = .returned (.bool true) ∧ Below w.heap.size w w' := by
  obtain ⟨k, m, a, cap, rfl⟩ := hat.agg
  obtain ⟨k', m', a', cap', rfl⟩ := hau.agg
  have hB : Below w.heap.size w ((w.alloc (Obj.cells #[.int .i64 k, .slice a m cap] 24)).alloc (Obj.cells #[.int .i64 k', .slice a' m' cap'] 24)) := ((Below.refl _ _).alloc (Nat.le_refl _) _).alloc (by simp) _
  have hA0 := hat.below hB
  have hU0 := hau.below hB
  by_cases hc : (t.cnt : Int) ≤ 1048576
  case neg =>
    go_enter Try.func4, Try.ntmps4
    go_wp2_with fail
    refine (szType_none t _ _ 1048576 _ (by omega) (by omega) hA0 (by omega)).mono ?_
    rintro e z0 ⟨rfl, hb0⟩
    go_wp2_with fail
    go_ret
    exact ⟨rfl, alloc2 hb0⟩
  have hp0 : (0 : Int) ≤ 1048576 - (t.cnt : Int) := by omega
  by_cases hc2 : (u.cnt : Int) ≤ 1048576 - (t.cnt : Int)
  case neg =>
    go_enter Try.func4, Try.ntmps4
    go_wp2_with fail
    refine (szType_some t _ _ 1048576 _ (by omega) (by omega) hA0 (by omega)).mono ?_
    rintro e z0 ⟨rfl, hb0⟩
    obtain ⟨x0, x1, x2, x3⟩ := box_cells2 hb0
    go_wp2_with fail
    refine (szType_none u _ _ _ _ (by omega) (by omega) (hU0.below hb0) (by omega)).mono ?_
    rintro e z1 ⟨rfl, hb1⟩
    go_wp2_with fail
    go_ret
    exact ⟨rfl, below_trans (alloc2 hb0) hb1⟩
  have hp1 : (0 : Int) ≤ 1048576 - (t.cnt : Int) - (u.cnt : Int) := by omega
  have hn1 : t.cnt ≤ 1048576 := by omega
  have hn2 : u.cnt ≤ 1048576 := by omega
  go_enter Try.func4, Try.ntmps4
  go_wp2_with fail
  refine (szType_some t _ _ 1048576 _ (by omega) (by omega) hA0 (by omega)).mono ?_
  rintro e z0 ⟨rfl, hb0⟩
  obtain ⟨x0, x1, x2, x3⟩ := box_cells2 hb0
  have hA1 := hA0.below hb0
  have hU1 := hU0.below hb0
  have hz0 := alloc2 hb0
  clear hb0 hA0 hU0
  go_wp2_with fail
  refine (szType_some u _ _ _ _ (by omega) (by omega) hU1 (by omega)).mono ?_
  rintro e z1 ⟨rfl, hb1⟩
  have hA2 := hA1.below hb1
  have hU2 := hU1.below hb1
  have hz1 := below_trans hz0 hb1
  replace x0 := cell_keep x0 hb1
  replace x1 := cell_keep x1 hb1
  replace x2 := cell_keep x2 hb1
  replace x3 := cell_keep x3 hb1
  clear hb1 hA1 hU1 hz0
  go_wp2_with fail
  go_region_held3 (fun w' => Below z1.heap.size z1 w' ∧ w'.cell? ⟨w.heap.size, 0, none⟩ = some (.int .i64 k) ∧ w'.cell? ⟨w.heap.size, 1, none⟩ = some (.slice a m cap) ∧ w'.cell? ⟨w.heap.size + 1, 0, none⟩ = some (.int .i64 k') ∧ w'.cell? ⟨w.heap.size + 1, 1, none⟩ = some (.slice a' m' cap'))
    ((refine (fun hB => ⟨hB, cell_keep x0 hB, cell_keep x1 hB, cell_keep x2 hB, cell_keep x3 hB⟩ : Below z1.heap.size z1 _ → _) ?_; (first | exact below_drew z1 | exact hk1 | exact hk2 | exact hk3)))
    (first
      | (go_at_call_of 9 (Value.agg #[.int .i64 k, .slice a m cap]); refine (toType_any t _ _ _ (hA2.below (below_drew z1)) hn1).mono ?_; rintro e y1 ⟨u1, g1, rfl, hu1, hg1, hy1⟩; have hk1 := below_trans (below_drew z1) hy1)
      | (go_at_call_of 9 (Value.agg #[.int .i64 k', .slice a' m' cap']); refine (toType_any u _ _ _ (hU2.below hk1) hn2).mono ?_; rintro e y2 ⟨u2, g2, rfl, hu2, hg2, hy2⟩; have hk2 := below_trans hk1 hy2)
      | (go_at_call 12; refine (specSubNegative t u _ _ _ _ _ (hu1.below hy2) hu2).mono ?_; rintro e y3 ⟨rfl, hy3⟩; have hk3 := below_trans hk2 hy3))
  replace x0 := cell_keep x0 hk3
  replace x1 := cell_keep x1 hk3
  replace x2 := cell_keep x2 hk3
  replace x3 := cell_keep x3 hk3
  have hA3 := hA2.below hk3
  have hU3 := hU2.below hk3
  have hz3 := below_trans hz1 hk3
  clear hk1 hk2 hk3 hA2 hU2 hz1 hu1 hu2 hg1 hg2 hy1 hy2 hy3
  go_wp2_with fail
  refine (toType_any t _ _ _ hA3 hn1).mono ?_
  rintro e y4 ⟨v4, f4, rfl, hu4, hf4, hb4⟩
  obtain ⟨k4, n4, c4, cap4, rfl⟩ := hu4.agg
  have hal4 : Below y4.heap.size y4 (y4.alloc (Obj.cells #[.int .i64 k4, .slice c4 n4 cap4] 29)) := (Below.refl _ _).alloc (Nat.le_refl _) _
  have hb4' := below_trans hb4 hal4
  have hU4 := hU3.below hb4'
  replace x0 := cell_keep x0 hb4'
  replace x1 := cell_keep x1 hb4'
  replace x2 := cell_keep x2 hb4'
  replace x3 := cell_keep x3 hb4'
  go_wp2_with fail
  refine (toType_any u _ _ _ hU4 hn2).mono ?_
  rintro e y5 ⟨v5, f5, rfl, hu5, hf5, hb5⟩
  obtain ⟨k5, n5, c5, cap5, rfl⟩ := hu5.agg
  have hal5 : Below y5.heap.size y5 (y5.alloc (Obj.cells #[.int .i64 k5, .slice c5 n5 cap5] 29)) := (Below.refl _ _).alloc (Nat.le_refl _) _
  have hb5' := below_trans hb5 hal5
  obtain ⟨q0, q1⟩ := box_cells hb5'
  have h4 := (hu4.below hal4).below hb5'
  have h5 := hu5.below hal5
  replace x0 := cell_keep x0 hb5'
  replace x1 := cell_keep x1 hb5'
  replace x2 := cell_keep x2 hb5'
  replace x3 := cell_keep x3 hb5'
  go_wp2_with fail
  refine (implSubNegative t u _ _ _ _ _ h4 h5).mono ?_
  rintro e y6 ⟨rfl, hb6⟩
  obtain ⟨r0, r1⟩ := box_cells hb6
  replace x0 := cell_keep x0 hb6
  replace x1 := cell_keep x1 hb6
  replace x2 := cell_keep x2 hb6
  replace x3 := cell_keep x3 hb6
  replace q0 := cell_keep q0 hb6
  replace q1 := cell_keep q1 hb6
  have h4' := h4.below hb6
  have h5' := h5.below hb6
  have hall := below_trans (below_trans hb4' hb5') hb6
  have hA6 := hA3.below hall
  have hU6 := hU3.below hall
  have hz6 := below_trans hz3 hall
  clear hall hA3 hU3 hz3 hU4 hu4 hu5 h4 h5 hb4 hb4' hb5 hb5' hb6 hal4 hal5 hf4 hf5
  go_wp2_with fail
  go_region_held3 (fun w' => Below y6.heap.size y6 w' ∧ w'.cell? ⟨w.heap.size, 0, none⟩ = some (.int .i64 k) ∧ w'.cell? ⟨w.heap.size, 1, none⟩ = some (.slice a m cap) ∧ w'.cell? ⟨w.heap.size + 1, 0, none⟩ = some (.int .i64 k') ∧ w'.cell? ⟨w.heap.size + 1, 1, none⟩ = some (.slice a' m' cap') ∧ w'.cell? ⟨y4.heap.size, 0, none⟩ = some (.int .i64 k4) ∧ w'.cell? ⟨y4.heap.size, 1, none⟩ = some (.slice c4 n4 cap4) ∧ w'.cell? ⟨y5.heap.size, 0, none⟩ = some (.int .i64 k5) ∧ w'.cell? ⟨y5.heap.size, 1, none⟩ = some (.slice c5 n5 cap5))
    ((refine (fun hB => ⟨hB, cell_keep x0 hB, cell_keep x1 hB, cell_keep x2 hB, cell_keep x3 hB, cell_keep q0 hB, cell_keep q1 hB, cell_keep r0 hB, cell_keep r1 hB⟩ : Below y6.heap.size y6 _ → _) ?_; (first | exact below_drew y6 | exact hk1 | exact hk2)))
    (first
      | (go_at_call 9; refine (toType_any t _ _ _ (hA6.below (below_drew y6)) hn1).mono ?_; rintro e y7 ⟨u7, g7, rfl, hu7, hg7, hy7⟩; have hk1 := below_trans (below_drew y6) hy7)
      | (go_at_call 11; refine (eqType_any t t _ _ _ _ _ (h4'.below hk1) hu7).mono ?_; rw [tyEq_refl]; rintro e y8 ⟨rfl, hy8⟩; have hk2 := below_trans hk1 hy8))
  replace x0 := cell_keep x0 hk2
  replace x1 := cell_keep x1 hk2
  replace x2 := cell_keep x2 hk2
  replace x3 := cell_keep x3 hk2
  replace q0 := cell_keep q0 hk2
  replace q1 := cell_keep q1 hk2
  replace r0 := cell_keep r0 hk2
  replace r1 := cell_keep r1 hk2
  have hU8 := hU6.below hk2
  have h58 := h5'.below hk2
  have hz8 := below_trans hz6 hk2
  clear hk1 hk2 hU6 hA6 h5' h4' hz6 hy7 hy8 hu7 hg7
  go_wp2_with fail
  go_region_held3 (fun w' => Below y8.heap.size y8 w' ∧ w'.cell? ⟨w.heap.size, 0, none⟩ = some (.int .i64 k) ∧ w'.cell? ⟨w.heap.size, 1, none⟩ = some (.slice a m cap) ∧ w'.cell? ⟨w.heap.size + 1, 0, none⟩ = some (.int .i64 k') ∧ w'.cell? ⟨w.heap.size + 1, 1, none⟩ = some (.slice a' m' cap') ∧ w'.cell? ⟨y4.heap.size, 0, none⟩ = some (.int .i64 k4) ∧ w'.cell? ⟨y4.heap.size, 1, none⟩ = some (.slice c4 n4 cap4) ∧ w'.cell? ⟨y5.heap.size, 0, none⟩ = some (.int .i64 k5) ∧ w'.cell? ⟨y5.heap.size, 1, none⟩ = some (.slice c5 n5 cap5))
    ((refine (fun hB => ⟨hB, cell_keep x0 hB, cell_keep x1 hB, cell_keep x2 hB, cell_keep x3 hB, cell_keep q0 hB, cell_keep q1 hB, cell_keep r0 hB, cell_keep r1 hB⟩ : Below y8.heap.size y8 _ → _) ?_; (first | exact below_drew y8 | exact hk1 | exact hk2)))
    (first
      | (go_at_call 9; refine (toType_any u _ _ _ (hU8.below (below_drew y8)) hn2).mono ?_; rintro e y9 ⟨u9, g9, rfl, hu9, hg9, hy9⟩; have hk1 := below_trans (below_drew y8) hy9)
      | (go_at_call 11; refine (eqType_any u u _ _ _ _ _ (h58.below hk1) hu9).mono ?_; rw [tyEq_refl]; rintro e y10 ⟨rfl, hy10⟩; have hk2 := below_trans hk1 hy10))
  go_wp2_with fail
  go_ret
  exact ⟨rfl, below_trans hz8 hk2⟩
end Go.Proofs.Ytgiimijooabioaa
