/- The law on CoercionLabels: it returns true and writes nothing that was there. -/
import Derived.Test.YtgiimijooabioaaCSz
import Derived.Test.YtgiimijooabioaaCTo
import Derived.Test.YtgiimijooabioaaCEq
import Derived.Test.YtgiimijooabioaaLcJ
import Derived.Test.YtgiimijooabioaaLcM
import Derived.Test.YtgiimijooabioaaLcT
import Derived.Test.YtgiimijooabioaaCHd
import Derived.Deep.RegionHeld3
namespace Go.Proofs.Ytgiimijooabioaa
open Go.RowKit

set_option maxHeartbeats 8000000 in
set_option maxRecDepth 100000 in
theorem lawCoercionLabels (t : Co) (v : Value) (fp : List Nat) (w : World) (hat : t.At w v fp) :
    Calls Try.prog 6 #[v] w fun e w' => e = .returned (.bool true) ∧ Below w.heap.size w w' := by
  obtain ⟨k, g, l, n3, a3, c3, rfl⟩ := hat.agg
  have hlA := hat.lt
  have hb0 : Below w.heap.size w (w.alloc (Obj.cells #[.int .i64 k, .int .i64 g, .int .i64 l, .slice a3 n3 c3] 34)) := (Below.refl _ _).alloc (Nat.le_refl _) _
  by_cases hc : t.cnt ≤ 1048576
  case neg =>
    go_enter Try.func6, Try.ntmps6
    go_wp2_with fail
    refine (szCoer_none t _ fp 1048576 _ (by omega) (by omega) (hat.below hb0) (by omega)).mono ?_
    rintro e w1 ⟨rfl, hb1⟩
    go_wp2_with fail
    go_ret
    exact ⟨rfl, alloc1 hb1⟩
  have hpos : (0 : Int) ≤ 1048576 - (t.cnt : Int) := by omega
  have hlen : (lcLst t).length ≤ 4194300 := by have := lcLst_len t; omega
  have hp1 : (0 : Int) ≤ 1 + 3 * (t.cnt : Int) := by omega
  have hp2 : (0 : Int) ≤ ((1 + (lcLst t).length : Nat) : Int) := by omega
  go_enter Try.func6, Try.ntmps6
  go_wp2_with fail
  refine (szCoer_some t _ fp 1048576 _ (by omega) (by omega) (hat.below hb0) (by omega)).mono ?_
  rintro e w1 ⟨rfl, hb1⟩
  have hz := below_trans hb0 hb1
  replace hat := hat.below hz
  obtain ⟨x0, x1, x2, x3⟩ := box4 hb1
  clear hb0 hb1
  go_wp2_with fail
  refine (toCoer_any t _ fp _ hat hc).mono ?_
  rintro e w2 ⟨v2, f2, rfl, hat2, hf2, hb⟩
  replace x0 := cell_keep x0 hb
  replace x1 := cell_keep x1 hb
  replace x2 := cell_keep x2 hb
  replace x3 := cell_keep x3 hb
  replace hat := hat.below hb
  replace hz := below_trans hz hb
  clear hb hf2
  go_wp2_with fail
  refine (specCoercionLabels t _ _ _ hc hat2).mono ?_
  rintro e wc ⟨s6, rfl, hw6, hb⟩
  obtain ⟨a6, cap6, rfl⟩ := hw6.shape
  have hl6 := hw6.within
  replace x0 := cell_keep x0 hb
  replace x1 := cell_keep x1 hb
  replace x2 := cell_keep x2 hb
  replace x3 := cell_keep x3 hb
  replace hat := hat.below hb
  replace hz := below_trans hz hb
  have hSw : w.heap.size < wc.heap.size := World.block_lt_of_cell? _ _ x0
  clear hb hat2
  go_wp2_with fail
  refine (toCoer_any t _ fp _ hat hc).mono ?_
  rintro e y4 ⟨v4, f4, rfl, h4, hf4, hb4⟩
  obtain ⟨k4, g4, l4, n34, a34, c34, rfl⟩ := h4.agg
  have hb4a : Below y4.heap.size y4 (y4.alloc (Obj.cells #[.int .i64 k4, .int .i64 g4, .int .i64 l4, .slice a34 n34 c34] 40)) := (Below.refl _ _).alloc (Nat.le_refl _) _
  have hR4 : Within wc.heap.size y4.heap.size f4 := hf4.within
  have hS4 : wc.heap.size ≤ y4.heap.size := hb4.size
  have hb := below_trans hb4 hb4a
  replace x0 := cell_keep x0 hb
  replace x1 := cell_keep x1 hb
  replace x2 := cell_keep x2 hb
  replace x3 := cell_keep x3 hb
  replace hat := hat.below hb
  replace hw6 := hw6.below hb
  replace hz := below_trans hz hb
  replace h4 := h4.below hb4a
  replace hf4 := hf4.below hb4a
  clear hb hb4 hb4a
  go_wp2_with fail
  refine (implCoercionLabels t _ _ _ hc h4).mono ?_
  rintro e y6 ⟨sg, rfl, hg, hb⟩
  obtain ⟨ag, capg, rfl⟩ := hg.shape
  obtain ⟨q0, q1, q2, q3⟩ := box4 hb
  have hR6 : Within (y4.heap.size + 1) y6.heap.size (Value.slice ag (lcLst t).length capg).ownBlock.toList := by have := hg.within; simpa using this
  have hS6 : y4.heap.size + 1 ≤ y6.heap.size := by have := hb.size; simp at this; omega
  replace x0 := cell_keep x0 hb
  replace x1 := cell_keep x1 hb
  replace x2 := cell_keep x2 hb
  replace x3 := cell_keep x3 hb
  replace hat := hat.below hb
  replace hw6 := hw6.below hb
  replace h4 := h4.below hb
  replace hf4 := hf4.below hb
  replace hz := below_trans hz hb
  clear hb
  go_wp2_with fail
  refine (eqIntS_any _ _ _ _ _ _ hg hw6 (by omega)).mono ?_
  rintro e y7 ⟨rfl, hb⟩
  replace x0 := cell_keep x0 hb
  replace x1 := cell_keep x1 hb
  replace x2 := cell_keep x2 hb
  replace x3 := cell_keep x3 hb
  replace q0 := cell_keep q0 hb
  replace q1 := cell_keep q1 hb
  replace q2 := cell_keep q2 hb
  replace q3 := cell_keep q3 hb
  replace hat := hat.below hb
  replace hw6 := hw6.below hb
  replace h4 := h4.below hb
  replace hg := hg.below hb
  replace hf4 := hf4.below hb
  replace hz := below_trans hz hb
  clear hb
  go_wp2_with fail
  go_region_held3 (fun w' => Below y7.heap.size y7 w' ∧ w'.cell? ⟨w.heap.size, 0, none⟩ = some (.int .i64 k) ∧ w'.cell? ⟨w.heap.size, 1, none⟩ = some (.int .i64 g) ∧ w'.cell? ⟨w.heap.size, 2, none⟩ = some (.int .i64 l) ∧ w'.cell? ⟨w.heap.size, 3, none⟩ = some (.slice a3 n3 c3) ∧ w'.cell? ⟨y4.heap.size, 0, none⟩ = some (.int .i64 k4) ∧ w'.cell? ⟨y4.heap.size, 1, none⟩ = some (.int .i64 g4) ∧ w'.cell? ⟨y4.heap.size, 2, none⟩ = some (.int .i64 l4) ∧ w'.cell? ⟨y4.heap.size, 3, none⟩ = some (.slice a34 n34 c34))
    ((refine (fun hB => ⟨hB, cell_keep x0 hB, cell_keep x1 hB, cell_keep x2 hB, cell_keep x3 hB, cell_keep q0 hB, cell_keep q1 hB, cell_keep q2 hB, cell_keep q3 hB⟩ : Below y7.heap.size y7 _ → _) ?_; (first | exact below_drew y7 | exact hk1 | exact hk2)))
    (first
      | (go_at_call 18; refine (toCoer_any t _ fp _ (hat.below (below_drew y7)) hc).mono ?_; rintro e y8 ⟨uu8, gg8, rfl, hu, hgg, hy⟩; have hk1 := below_trans (below_drew y7) hy)
      | (go_at_call 21; refine (eqCoer_any t t _ _ _ _ _ (h4.below hk1) hu).mono ?_; rw [coEq_refl]; rintro e y9 ⟨rfl, hyy⟩; have hk2 := below_trans hk1 hyy))
  replace x0 := cell_keep x0 hk2
  replace x1 := cell_keep x1 hk2
  replace x2 := cell_keep x2 hk2
  replace x3 := cell_keep x3 hk2
  replace q0 := cell_keep q0 hk2
  replace q1 := cell_keep q1 hk2
  replace q2 := cell_keep q2 hk2
  replace q3 := cell_keep q3 hk2
  replace hat := hat.below hk2
  replace hw6 := hw6.below hk2
  replace h4 := h4.below hk2
  replace hg := hg.below hk2
  replace hf4 := hf4.below hk2
  replace hz := below_trans hz hk2
  clear hk1 hk2 hu hgg hy hyy
  go_wp2_with fail
  have hRA : Within 0 w.heap.size fp := fun b hb => ⟨Nat.zero_le _, hlA b hb⟩
  have hRw : Within 0 wc.heap.size (Value.slice a6 (lcLst t).length cap6).ownBlock.toList := fun b hb => ⟨Nat.zero_le _, (hl6 b hb).2⟩
  refine (markCoer_any t _ f4 1 _ h4 hf4.1 (fun b hb => (hf4.2 b hb).2.2) (by omega) (by omega)).mono ?_
  rintro e y12 ⟨rfl, _, hon⟩
  clear q0 q1 q2 q3 h4 hf4
  replace x0 := cell_only x0 hon (by first | exact hR4.low (by omega) | exact hR4.high (by omega))
  replace x1 := cell_only x1 hon (by first | exact hR4.low (by omega) | exact hR4.high (by omega))
  replace x2 := cell_only x2 hon (by first | exact hR4.low (by omega) | exact hR4.high (by omega))
  replace x3 := cell_only x3 hon (by first | exact hR4.low (by omega) | exact hR4.high (by omega))
  replace hat := hat.only hon (hR4.apart hRA (by omega))
  replace hw6 := hw6.only hon (hR4.apart hRw (by omega))
  replace hg := hg.only hon (hR4.apart hR6 (by omega))
  replace hz := belowOnly hz hon (by have := hz.size; omega) (fun b hb => by have := (hR4 b hb).1; omega)
  clear hon
  go_wp2_with fail
  refine (eqIntS_any _ _ _ _ _ _ hg hw6 (by omega)).mono ?_
  rintro e y14 ⟨rfl, hb⟩
  replace x0 := cell_keep x0 hb
  replace x1 := cell_keep x1 hb
  replace x2 := cell_keep x2 hb
  replace x3 := cell_keep x3 hb
  replace hat := hat.below hb
  replace hw6 := hw6.below hb
  replace hg := hg.below hb
  replace hz := below_trans hz hb
  clear hb
  go_wp2_with fail
  refine (markIntS_any _ _ _ 1 _ hg (by omega) (by omega)).mono ?_
  rintro e y15 ⟨rfl, hg, hon⟩
  replace x0 := cell_only x0 hon (by first | exact hR6.low (by omega) | exact hR6.high (by omega))
  replace x1 := cell_only x1 hon (by first | exact hR6.low (by omega) | exact hR6.high (by omega))
  replace x2 := cell_only x2 hon (by first | exact hR6.low (by omega) | exact hR6.high (by omega))
  replace x3 := cell_only x3 hon (by first | exact hR6.low (by omega) | exact hR6.high (by omega))
  replace hat := hat.only hon (hR6.apart hRA (by omega))
  replace hw6 := hw6.only hon (hR6.apart hRw (by omega))
  replace hz := belowOnly hz hon (by have := hz.size; omega) (fun b hb => by have := (hR6 b hb).1; omega)
  clear hon
  go_wp2_with fail
  refine (heldIntS_any _ _ _ 1 _ hg (by omega) (by omega)).mono ?_
  rintro e y16 ⟨rfl, hb⟩
  replace x0 := cell_keep x0 hb
  replace x1 := cell_keep x1 hb
  replace x2 := cell_keep x2 hb
  replace x3 := cell_keep x3 hb
  replace hat := hat.below hb
  replace hw6 := hw6.below hb
  replace hg := hg.below hb
  replace hz := below_trans hz hb
  clear hb
  go_wp2_with fail
  refine (toCoer_any t _ fp _ hat hc).mono ?_
  rintro e y17 ⟨v9, f9, rfl, h9, hf9, hb⟩
  replace x0 := cell_keep x0 hb
  replace x1 := cell_keep x1 hb
  replace x2 := cell_keep x2 hb
  replace x3 := cell_keep x3 hb
  replace hat := hat.below hb
  replace hw6 := hw6.below hb
  replace hg := hg.below hb
  replace hz := below_trans hz hb
  clear hb hf9
  go_wp2_with fail
  refine (implCoercionLabels t _ _ _ hc h9).mono ?_
  rintro e y18 ⟨s8, rfl, hw8, hb⟩
  obtain ⟨a8, cap8, rfl⟩ := hw8.shape
  replace x0 := cell_keep x0 hb
  replace x1 := cell_keep x1 hb
  replace x2 := cell_keep x2 hb
  replace x3 := cell_keep x3 hb
  replace hat := hat.below hb
  replace hw6 := hw6.below hb
  replace hg := hg.below hb
  replace hz := below_trans hz hb
  clear hb h9
  go_wp2_with fail
  refine (eqIntS_any _ _ _ _ _ _ hw8 hw6 (by omega)).mono ?_
  rintro e y19 ⟨rfl, hb⟩
  replace x0 := cell_keep x0 hb
  replace x1 := cell_keep x1 hb
  replace x2 := cell_keep x2 hb
  replace x3 := cell_keep x3 hb
  replace hat := hat.below hb
  replace hw6 := hw6.below hb
  replace hg := hg.below hb
  replace hz := below_trans hz hb
  clear hb
  go_wp2_with fail
  refine (heldIntS_any _ _ _ 1 _ hg (by omega) (by omega)).mono ?_
  rintro e y20 ⟨rfl, hb⟩
  replace hz := below_trans hz hb
  go_wp2_with fail
  go_ret
  exact ⟨rfl, hz⟩
end Go.Proofs.Ytgiimijooabioaa
