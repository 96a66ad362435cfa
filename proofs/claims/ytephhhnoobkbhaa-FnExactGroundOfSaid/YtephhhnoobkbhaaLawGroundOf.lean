/- The law on GroundOf: it returns true and writes nothing that was there. -/
import Derived.Test.YtephhhnoobkbhaaSz
import Derived.Test.YtephhhnoobkbhaaTo
import Derived.Test.YtephhhnoobkbhaaEq
import Derived.Test.YtephhhnoobkbhaaFin2
import Derived.Test.YtephhhnoobkbhaaGround2
import Derived.Deep.RegionHeld3
namespace Go.Proofs.Ytephhhnoobkbhaa
open Go.RowKit

set_option maxHeartbeats 4000000 in
set_option maxRecDepth 100000 in
theorem lawGroundOf (t : Ty) (v1 : Value) (fp1 : List Nat) (w : World) (hat : t.At w v1 fp1) :
    Calls Try.prog 3 #[v1] w fun e w' => e = .returned (.bool true) ∧ Below w.heap.size w w' := by
  obtain ⟨k, m, a, cap, rfl⟩ := hat.agg
  have hlA := hat.lt
  have hB : Below w.heap.size w (w.alloc (Obj.cells #[.int .i64 k, .slice a m cap] 24)) := (Below.refl _ _).alloc (Nat.le_refl _) _
  have hA := hat.below hB
  clear hat
  by_cases hc : (t.cnt : Int) ≤ 1048576
  case neg =>
    go_enter Try.func3, Try.ntmps3
    go_wp2_with fail
    refine (szType_none t _ _ 1048576 _ (by omega) (by omega) hA (by omega)).mono ?_
    rintro e z0 ⟨rfl, hb0⟩
    go_wp2_with fail
    go_ret
    exact ⟨rfl, alloc1 hb0⟩
  have hp0 : (0 : Int) ≤ 1048576 - (t.cnt : Int) := by omega
  have hn1 : t.cnt ≤ 1048576 := by omega
  have hn3 : (gndOf t).cnt ≤ 2097152 := by
    have : (gndOf t).cnt ≤ t.cnt := by unfold gndOf; split; exact grd_cnt t; simp [Ty.cnt, cntL]
    omega
  go_enter Try.func3, Try.ntmps3
  go_wp2_with fail
  refine (szType_some t _ _ 1048576 _ (by omega) (by omega) hA (by omega)).mono ?_
  rintro e z0 ⟨rfl, hb0⟩
  obtain ⟨x0, x1⟩ := box_cells hb0
  replace hA := hA.below hb0
  have hz := alloc1 hb0
  clear hb0 hB
  go_wp2_with fail
  refine (toType_any t _ _ _ hA hn1).mono ?_
  rintro e z1 ⟨v2, f2, rfl, h2, hf2, hb⟩
  replace x0 := cell_keep x0 hb
  replace x1 := cell_keep x1 hb
  replace hA := hA.below hb
  replace hz := below_trans hz hb
  clear hb hf2
  go_wp2_with fail
  refine (specGroundOf t _ _ _ h2 hn1).mono ?_
  rintro e wc ⟨v6, f6, rfl, hw6, hf6, hb⟩
  obtain ⟨k6, n6, c6, cap6, rfl⟩ := hw6.agg
  have hb6a : Below wc.heap.size wc (wc.alloc (Obj.cells #[.int .i64 k6, .slice c6 n6 cap6] 28)) := (Below.refl _ _).alloc (Nat.le_refl _) _
  have hl6 := hw6.lt
  replace hb := below_trans hb hb6a
  replace x0 := cell_keep x0 hb
  replace x1 := cell_keep x1 hb
  replace hA := hA.below hb
  replace hz := below_trans hz hb
  have hSw : w.heap.size < wc.heap.size + 1 := by
    have hq := World.block_lt_of_cell? _ _ x0
    simpa using hq
  replace hw6 := hw6.below hb6a
  clear hb hb6a hf6
  go_wp2_with fail
  refine (toType_any t _ _ _ hA hn1).mono ?_
  rintro e y4 ⟨v4, f4, rfl, h4, hf4, hb4⟩
  obtain ⟨k4, n4, c4, cap4, rfl⟩ := h4.agg
  obtain ⟨e6x, e6y⟩ := box_cells hb4
  have hb4a : Below y4.heap.size y4 (y4.alloc (Obj.cells #[.int .i64 k4, .slice c4 n4 cap4] 28)) := (Below.refl _ _).alloc (Nat.le_refl _) _
  have hR4 : Within (wc.heap.size + 1) y4.heap.size f4 := by have := hf4.within; simpa using this
  have hS4 : wc.heap.size + 1 ≤ y4.heap.size := by have := hb4.size; simp at this; omega
  have hb := below_trans hb4 hb4a
  replace x0 := cell_keep x0 hb
  replace x1 := cell_keep x1 hb
  replace hA := hA.below hb
  replace hw6 := hw6.below hb
  replace hz := below_trans hz hb
  replace e6x := cell_keep e6x hb4a
  replace e6y := cell_keep e6y hb4a
  replace h4 := h4.below hb4a
  replace hf4 := hf4.below hb4a
  clear hb hb4 hb4a
  go_wp2_with fail
  refine (implGroundOf t _ _ _ h4 hn1).mono ?_
  rintro e y6 ⟨vg, fg, rfl, hg, hfg, hb6⟩
  obtain ⟨kg, ng, cg, capg, rfl⟩ := hg.agg
  obtain ⟨q0, q1⟩ := box_cells hb6
  have hb6a : Below y6.heap.size y6 (y6.alloc (Obj.cells #[.int .i64 kg, .slice cg ng capg] 28)) := (Below.refl _ _).alloc (Nat.le_refl _) _
  have hR6 : Within (y4.heap.size + 1) y6.heap.size fg := by have := hfg.within; simpa using this
  have hS6 : y4.heap.size + 1 ≤ y6.heap.size := by have := hb6.size; simp at this; omega
  have hb := below_trans hb6 hb6a
  replace x0 := cell_keep x0 hb
  replace x1 := cell_keep x1 hb
  replace e6x := cell_keep e6x hb
  replace e6y := cell_keep e6y hb
  replace hA := hA.below hb
  replace hw6 := hw6.below hb
  replace h4 := h4.below hb
  replace hz := below_trans hz hb
  replace q0 := cell_keep q0 hb6a
  replace q1 := cell_keep q1 hb6a
  replace hf4 := hf4.below hb
  replace hg := hg.below hb6a
  replace hfg := hfg.below hb6a
  clear hb hb6 hb6a
  go_wp2_with fail
  refine (eqType_any _ _ _ _ _ _ _ hg hw6).mono ?_
  rw [tyEq_refl]
  rintro e y7 ⟨rfl, hb⟩
  obtain ⟨g0, g1⟩ := box_cells hb
  replace x0 := cell_keep x0 hb
  replace x1 := cell_keep x1 hb
  replace e6x := cell_keep e6x hb
  replace e6y := cell_keep e6y hb
  replace q0 := cell_keep q0 hb
  replace q1 := cell_keep q1 hb
  replace hA := hA.below hb
  replace hw6 := hw6.below hb
  replace h4 := h4.below hb
  replace hg := hg.below hb
  replace hz := below_trans hz hb
  replace hf4 := hf4.below hb
  replace hfg := hfg.below hb
  clear hb
  go_wp2_with fail
  go_region_held3 (fun w' => Below y7.heap.size y7 w' ∧ w'.cell? ⟨w.heap.size, 0, none⟩ = some (.int .i64 k) ∧ w'.cell? ⟨w.heap.size, 1, none⟩ = some (.slice a m cap) ∧ w'.cell? ⟨y4.heap.size, 0, none⟩ = some (.int .i64 k4) ∧ w'.cell? ⟨y4.heap.size, 1, none⟩ = some (.slice c4 n4 cap4))
    ((refine (fun hB => ⟨hB, cell_keep x0 hB, cell_keep x1 hB, cell_keep q0 hB, cell_keep q1 hB⟩ : Below y7.heap.size y7 _ → _) ?_; (first | exact below_drew y7 | exact hk1 | exact hk2)))
    (first
      | (go_at_call 16; refine (toType_any t _ _ _ (hA.below (below_drew y7)) hn1).mono ?_; rintro e y8 ⟨uu8, gg8, rfl, hu, hgg, hy⟩; have hk1 := below_trans (below_drew y7) hy)
      | (go_at_call 18; refine (eqType_any t t _ _ _ _ _ (h4.below hk1) hu).mono ?_; rw [tyEq_refl]; rintro e y9 ⟨rfl, hyy⟩; have hk2 := below_trans hk1 hyy))
  replace x0 := cell_keep x0 hk2
  replace x1 := cell_keep x1 hk2
  replace e6x := cell_keep e6x hk2
  replace e6y := cell_keep e6y hk2
  replace q0 := cell_keep q0 hk2
  replace q1 := cell_keep q1 hk2
  replace g0 := cell_keep g0 hk2
  replace g1 := cell_keep g1 hk2
  replace hA := hA.below hk2
  replace hw6 := hw6.below hk2
  replace h4 := h4.below hk2
  replace hg := hg.below hk2
  replace hz := below_trans hz hk2
  replace hf4 := hf4.below hk2
  replace hfg := hfg.below hk2
  clear hk1 hk2 hu hgg hy hyy
  go_wp2_with fail
  have hRA : Within 0 w.heap.size fp1 := fun b hb => ⟨Nat.zero_le _, hlA b hb⟩
  have hRw : Within 0 wc.heap.size f6 := fun b hb => ⟨Nat.zero_le _, hl6 b hb⟩
  refine (markType_any _ _ _ _ _ h4 hf4.1 (fun b hb => (hf4.2 b hb).2.2) (by omega) (by omega)).mono ?_
  rintro e y12 ⟨rfl, h4, hon⟩
  replace x0 := cell_only x0 hon (by first | exact hR4.low (by omega) | exact hR4.high (by omega))
  replace x1 := cell_only x1 hon (by first | exact hR4.low (by omega) | exact hR4.high (by omega))
  replace e6x := cell_only e6x hon (by first | exact hR4.low (by omega) | exact hR4.high (by omega))
  replace e6y := cell_only e6y hon (by first | exact hR4.low (by omega) | exact hR4.high (by omega))
  replace q0 := cell_only q0 hon (by first | exact hR4.low (by omega) | exact hR4.high (by omega))
  replace q1 := cell_only q1 hon (by first | exact hR4.low (by omega) | exact hR4.high (by omega))
  replace g0 := cell_only g0 hon (by first | exact hR4.low (by omega) | exact hR4.high (by omega))
  replace g1 := cell_only g1 hon (by first | exact hR4.low (by omega) | exact hR4.high (by omega))
  replace hA := hA.only hon (hR4.apart hRA (by omega))
  replace hw6 := hw6.only hon (hR4.apart hRw (by omega))
  replace hg := hg.only hon (hR4.apart hR6 (by omega))
  replace hz := belowOnly hz hon (by have := hz.size; omega) (fun b hb => by have := (hR4 b hb).1; omega)
  replace hfg := hfg.only hon
  clear hon
  go_wp2_with fail
  refine (eqType_any _ _ _ _ _ _ _ hg hw6).mono ?_
  rw [tyEq_refl]
  rintro e y14 ⟨rfl, hb⟩
  replace x0 := cell_keep x0 hb
  replace x1 := cell_keep x1 hb
  replace e6x := cell_keep e6x hb
  replace e6y := cell_keep e6y hb
  replace q0 := cell_keep q0 hb
  replace q1 := cell_keep q1 hb
  replace g0 := cell_keep g0 hb
  replace g1 := cell_keep g1 hb
  replace hA := hA.below hb
  replace hw6 := hw6.below hb
  replace hg := hg.below hb
  replace hz := below_trans hz hb
  replace hfg := hfg.below hb
  clear hb hf4
  go_wp2_with fail
  refine (markType_any _ _ _ _ _ hg hfg.1 (fun b hb => (hfg.2 b hb).2.2) (by omega) (by omega)).mono ?_
  rintro e y15 ⟨rfl, hg, hon⟩
  replace x0 := cell_only x0 hon (by first | exact hR6.low (by omega) | exact hR6.high (by omega))
  replace x1 := cell_only x1 hon (by first | exact hR6.low (by omega) | exact hR6.high (by omega))
  replace e6x := cell_only e6x hon (by first | exact hR6.low (by omega) | exact hR6.high (by omega))
  replace e6y := cell_only e6y hon (by first | exact hR6.low (by omega) | exact hR6.high (by omega))
  replace q0 := cell_only q0 hon (by first | exact hR6.low (by omega) | exact hR6.high (by omega))
  replace q1 := cell_only q1 hon (by first | exact hR6.low (by omega) | exact hR6.high (by omega))
  replace g0 := cell_only g0 hon (by first | exact hR6.low (by omega) | exact hR6.high (by omega))
  replace g1 := cell_only g1 hon (by first | exact hR6.low (by omega) | exact hR6.high (by omega))
  replace hA := hA.only hon (hR6.apart hRA (by omega))
  replace hw6 := hw6.only hon (hR6.apart hRw (by omega))
  replace hz := belowOnly hz hon (by have := hz.size; omega) (fun b hb => by have := (hR6 b hb).1; omega)
  clear hon
  go_wp2_with fail
  refine (heldType_any _ _ _ _ _ hg (by omega) (by omega)).mono ?_
  rintro e y16 ⟨rfl, hb⟩
  replace x0 := cell_keep x0 hb
  replace x1 := cell_keep x1 hb
  replace e6x := cell_keep e6x hb
  replace e6y := cell_keep e6y hb
  replace q0 := cell_keep q0 hb
  replace q1 := cell_keep q1 hb
  replace g0 := cell_keep g0 hb
  replace g1 := cell_keep g1 hb
  replace hA := hA.below hb
  replace hw6 := hw6.below hb
  replace hg := hg.below hb
  replace hz := below_trans hz hb
  clear hb
  go_wp2_with fail
  refine (toType_any t _ _ _ hA hn1).mono ?_
  rintro e y17 ⟨v9, f9, rfl, h9, hf9, hb⟩
  replace x0 := cell_keep x0 hb
  replace x1 := cell_keep x1 hb
  replace e6x := cell_keep e6x hb
  replace e6y := cell_keep e6y hb
  replace q0 := cell_keep q0 hb
  replace q1 := cell_keep q1 hb
  replace g0 := cell_keep g0 hb
  replace g1 := cell_keep g1 hb
  replace hA := hA.below hb
  replace hw6 := hw6.below hb
  replace hg := hg.below hb
  replace hz := below_trans hz hb
  clear hb hf9
  go_wp2_with fail
  refine (implGroundOf t _ _ _ h9 hn1).mono ?_
  rintro e y18 ⟨v8, f8, rfl, hw8, hf8, hb⟩
  obtain ⟨k8, n8, c8, cap8, rfl⟩ := hw8.agg
  have hb8a : Below y18.heap.size y18 (y18.alloc (Obj.cells #[.int .i64 k8, .slice c8 n8 cap8] 28)) := (Below.refl _ _).alloc (Nat.le_refl _) _
  replace hb := below_trans hb hb8a
  replace x0 := cell_keep x0 hb
  replace x1 := cell_keep x1 hb
  replace e6x := cell_keep e6x hb
  replace e6y := cell_keep e6y hb
  replace q0 := cell_keep q0 hb
  replace q1 := cell_keep q1 hb
  replace g0 := cell_keep g0 hb
  replace g1 := cell_keep g1 hb
  replace hA := hA.below hb
  replace hw6 := hw6.below hb
  replace hg := hg.below hb
  replace hz := below_trans hz hb
  replace hw8 := hw8.below hb8a
  clear hb hb8a hf8
  go_wp2_with fail
  refine (eqType_any _ _ _ _ _ _ _ hw8 hw6).mono ?_
  rw [tyEq_refl]
  rintro e y19 ⟨rfl, hb⟩
  replace x0 := cell_keep x0 hb
  replace x1 := cell_keep x1 hb
  replace e6x := cell_keep e6x hb
  replace e6y := cell_keep e6y hb
  replace q0 := cell_keep q0 hb
  replace q1 := cell_keep q1 hb
  replace g0 := cell_keep g0 hb
  replace g1 := cell_keep g1 hb
  replace hA := hA.below hb
  replace hw6 := hw6.below hb
  replace hg := hg.below hb
  replace hz := below_trans hz hb
  clear hb
  go_wp2_with fail
  refine (heldType_any _ _ _ _ _ hg (by omega) (by omega)).mono ?_
  rintro e y20 ⟨rfl, hb⟩
  replace hz := below_trans hz hb
  go_wp2_with fail
  go_ret
  exact ⟨rfl, hz⟩
end Go.Proofs.Ytephhhnoobkbhaa
