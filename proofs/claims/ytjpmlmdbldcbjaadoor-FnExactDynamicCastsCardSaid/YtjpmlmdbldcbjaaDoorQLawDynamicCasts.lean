/- The law on DynamicCasts: it returns true and writes nothing that was there. -/
import Derived.Deep.RegionHeld3
import Derived.Test.YtjpmlmdbldcbjaaDoorQLs5
import Derived.Test.YtjpmlmdbldcbjaaDoorQLv7
import Derived.Test.YtjpmlmdbldcbjaaDoorQPkB
import Derived.Test.YtjpmlmdbldcbjaaDoorQPkC
namespace Go.Proofs.YtjpmlmdbldcbjaaDoor
open Go.RowKit

set_option maxHeartbeats 8000000 in
set_option maxRecDepth 100000 in
theorem lawDynamicCasts (t : Tm) (v : Value) (fp : List Nat) (w : World) (hF : Forms w) (hat : t.At w v fp) :
    Calls Tryd.prog 6 #[v] w fun e w' => e = .returned (.bool true) ∧ Below w.heap.size w w' := by
  obtain ⟨k, nm, num, k1, n1, a1, c1, k2, n2, a2, c2, lb, n3, a3, c3, rfl⟩ := hat.agg
  have hlA := hat.lt
  have hF0 : 0 < w.heap.size := World.block_lt_of_cell? _ _ (hF 0 (by omega))
  have hb0 : Below w.heap.size w (w.alloc (Obj.cells #[.int .i64 k, .string nm, .int .i64 num, .int .i64 k1, .slice a1 n1 c1, .int .i64 k2, .slice a2 n2 c2, .int .i64 lb, .slice a3 n3 c3] 27)) := (Below.refl _ _).alloc (Nat.le_refl _) _
  by_cases hc : t.sz ≤ 1048576
  case neg =>
    have HS := hid (show szM t.sz 1048576 = -1 by unfold szM; rw [if_neg (by omega)])
    go_enter Tryd.func6, Tryd.ntmps6
    go_wp2_with fail
    refine (szTerm_any t _ fp 1048576 _ (by omega) (by omega) (hat.below hb0)).mono ?_
    rw [HS.out]
    rintro e w1 ⟨rfl, hb1⟩
    go_wp2_with fail
    go_ret
    exact ⟨rfl, alloc1 hb1⟩
  have hpos : (0 : Int) ≤ 1048576 - (t.sz : Int) := by omega
  have HS := hid (show szM t.sz 1048576 = 1048576 - (t.sz : Int) by unfold szM; rw [if_pos (by omega)])
  have hnum : 1 + t.num ≤ 1073741824 := by have := num_le t; omega
  have hnum2 : 1 + (dynT t).num ≤ 1073741824 := by have := num_dyn (num_le t) hc; omega
  have hp1 : (0 : Int) ≤ ((1 + t.num : Nat) : Int) := by omega
  have hp2 : (0 : Int) ≤ ((1 + (dynT t).num : Nat) : Int) := by omega
  have HSP := hid (fun (v : Value) (fp : List Nat) (w : World) (h : t.At w v fp) => specDynamic t v fp w hc h)
  have HIM := hid (fun (v : Value) (fp : List Nat) (w : World) (hF : Forms w) (h : t.At w v fp) => implDynamic t v fp w hc hF h)
  generalize dynT t = E at *
  generalize dynB t = ok at *
  go_enter Tryd.func6, Tryd.ntmps6
  go_wp2_with fail
  refine (szTerm_any t _ fp 1048576 _ (by omega) (by omega) (hat.below hb0)).mono ?_
  rw [HS.out]
  rintro e w1 ⟨rfl, hb1⟩
  have hz := below_trans hb0 hb1
  replace hat := hat.below hz
  replace hF := hF.below hz
  obtain ⟨x0, x1, x2, x3, x4, x5, x6, x7, x8⟩ := box9 hb1
  clear hb0 hb1
  go_wp2_with fail
  refine (toTerm_any t _ fp _ hat hc).mono ?_
  rintro e w2 ⟨v2, f2, rfl, hat2, hf2, hb⟩
  replace x0 := cell_keep x0 hb
  replace x1 := cell_keep x1 hb
  replace x2 := cell_keep x2 hb
  replace x3 := cell_keep x3 hb
  replace x4 := cell_keep x4 hb
  replace x5 := cell_keep x5 hb
  replace x6 := cell_keep x6 hb
  replace x7 := cell_keep x7 hb
  replace x8 := cell_keep x8 hb
  replace hat := hat.below hb
  replace hF := hF.below hb
  replace hz := below_trans hz hb
  clear hb hf2
  go_wp2_with fail
  refine (HSP.out _ _ _ hat2).mono ?_
  rintro e wc ⟨v6, f6, rfl, hw6, hf6, hb⟩
  obtain ⟨k6, nm6, num6, k16, n16, a16, c16, k26, n26, a26, c26, lb6, n36, a36, c36, rfl⟩ := hw6.agg
  have hb6a : Below wc.heap.size wc (wc.alloc (Obj.cells #[.int .i64 k6, .string nm6, .int .i64 num6, .int .i64 k16, .slice a16 n16 c16, .int .i64 k26, .slice a26 n26 c26, .int .i64 lb6, .slice a36 n36 c36] 34)) := (Below.refl _ _).alloc (Nat.le_refl _) _
  have hl6 := hw6.lt
  replace hb := below_trans hb hb6a
  replace x0 := cell_keep x0 hb
  replace x1 := cell_keep x1 hb
  replace x2 := cell_keep x2 hb
  replace x3 := cell_keep x3 hb
  replace x4 := cell_keep x4 hb
  replace x5 := cell_keep x5 hb
  replace x6 := cell_keep x6 hb
  replace x7 := cell_keep x7 hb
  replace x8 := cell_keep x8 hb
  replace hat := hat.below hb
  replace hF := hF.below hb
  replace hz := below_trans hz hb
  have hSw : w.heap.size < wc.heap.size + 1 := by
    have hq := World.block_lt_of_cell? _ _ x0
    simpa using hq
  replace hw6 := hw6.below hb6a
  clear hb hb6a hf6 hat2
  go_wp2_with fail
  refine (toTerm_any t _ fp _ hat hc).mono ?_
  rintro e y4 ⟨v4, f4, rfl, h4, hf4, hb4⟩
  obtain ⟨k4, nm4, num4, k14, n14, a14, c14, k24, n24, a24, c24, lb4, n34, a34, c34, rfl⟩ := h4.agg
  obtain ⟨e0, e1, e2, e3, e4, e5, e6, e7, e8⟩ := box9 hb4
  have hb4a : Below y4.heap.size y4 (y4.alloc (Obj.cells #[.int .i64 k4, .string nm4, .int .i64 num4, .int .i64 k14, .slice a14 n14 c14, .int .i64 k24, .slice a24 n24 c24, .int .i64 lb4, .slice a34 n34 c34] 34)) := (Below.refl _ _).alloc (Nat.le_refl _) _
  have hR4 : Within (wc.heap.size + 1) y4.heap.size f4 := by have := hf4.within; simpa using this
  have hS4 : wc.heap.size + 1 ≤ y4.heap.size := by have := hb4.size; simp at this; omega
  have hb := below_trans hb4 hb4a
  replace x0 := cell_keep x0 hb
  replace x1 := cell_keep x1 hb
  replace x2 := cell_keep x2 hb
  replace x3 := cell_keep x3 hb
  replace x4 := cell_keep x4 hb
  replace x5 := cell_keep x5 hb
  replace x6 := cell_keep x6 hb
  replace x7 := cell_keep x7 hb
  replace x8 := cell_keep x8 hb
  replace hat := hat.below hb
  replace hF := hF.below hb
  replace hw6 := hw6.below hb
  replace hz := below_trans hz hb
  replace e0 := cell_keep e0 hb4a
  replace e1 := cell_keep e1 hb4a
  replace e2 := cell_keep e2 hb4a
  replace e3 := cell_keep e3 hb4a
  replace e4 := cell_keep e4 hb4a
  replace e5 := cell_keep e5 hb4a
  replace e6 := cell_keep e6 hb4a
  replace e7 := cell_keep e7 hb4a
  replace e8 := cell_keep e8 hb4a
  replace h4 := h4.below hb4a
  replace hf4 := hf4.below hb4a
  clear hb hb4 hb4a
  go_wp2_with fail
  refine (HIM.out _ _ _ hF h4).mono ?_
  rintro e y6 ⟨vg, fg, rfl, hg, hfg, hb6⟩
  obtain ⟨kg, nmg, numg, k1g, n1g, a1g, c1g, k2g, n2g, a2g, c2g, lbg, n3g, a3g, c3g, rfl⟩ := hg.agg
  obtain ⟨q0, q1, q2, q3, q4, q5, q6, q7, q8⟩ := box9 hb6
  have hb6a : Below y6.heap.size y6 (y6.alloc (Obj.cells #[.int .i64 kg, .string nmg, .int .i64 numg, .int .i64 k1g, .slice a1g n1g c1g, .int .i64 k2g, .slice a2g n2g c2g, .int .i64 lbg, .slice a3g n3g c3g] 34)) := (Below.refl _ _).alloc (Nat.le_refl _) _
  have hR6 : Within (y4.heap.size + 1) y6.heap.size fg := by have := hfg.within; simpa using this
  have hS6 : y4.heap.size + 1 ≤ y6.heap.size := by have := hb6.size; simp at this; omega
  have hb := below_trans hb6 hb6a
  replace x0 := cell_keep x0 hb
  replace x1 := cell_keep x1 hb
  replace x2 := cell_keep x2 hb
  replace x3 := cell_keep x3 hb
  replace x4 := cell_keep x4 hb
  replace x5 := cell_keep x5 hb
  replace x6 := cell_keep x6 hb
  replace x7 := cell_keep x7 hb
  replace x8 := cell_keep x8 hb
  replace e0 := cell_keep e0 hb
  replace e1 := cell_keep e1 hb
  replace e2 := cell_keep e2 hb
  replace e3 := cell_keep e3 hb
  replace e4 := cell_keep e4 hb
  replace e5 := cell_keep e5 hb
  replace e6 := cell_keep e6 hb
  replace e7 := cell_keep e7 hb
  replace e8 := cell_keep e8 hb
  replace hat := hat.below hb
  replace hF := hF.below hb
  replace hw6 := hw6.below hb
  replace h4 := h4.below hb
  replace hf4 := hf4.below hb
  replace hz := below_trans hz hb
  replace q0 := cell_keep q0 hb6a
  replace q1 := cell_keep q1 hb6a
  replace q2 := cell_keep q2 hb6a
  replace q3 := cell_keep q3 hb6a
  replace q4 := cell_keep q4 hb6a
  replace q5 := cell_keep q5 hb6a
  replace q6 := cell_keep q6 hb6a
  replace q7 := cell_keep q7 hb6a
  replace q8 := cell_keep q8 hb6a
  replace hg := hg.below hb6a
  replace hfg := hfg.below hb6a
  clear hb hb6 hb6a
  go_wp2_with fail
  refine (eqTerm_any E _ _ _ _ _ hg hw6).mono ?_
  rintro e y7 ⟨rfl, hb⟩
  obtain ⟨g0, g1, g2, g3, g4, g5, g6, g7, g8⟩ := box9 hb
  replace x0 := cell_keep x0 hb
  replace x1 := cell_keep x1 hb
  replace x2 := cell_keep x2 hb
  replace x3 := cell_keep x3 hb
  replace x4 := cell_keep x4 hb
  replace x5 := cell_keep x5 hb
  replace x6 := cell_keep x6 hb
  replace x7 := cell_keep x7 hb
  replace x8 := cell_keep x8 hb
  replace e0 := cell_keep e0 hb
  replace e1 := cell_keep e1 hb
  replace e2 := cell_keep e2 hb
  replace e3 := cell_keep e3 hb
  replace e4 := cell_keep e4 hb
  replace e5 := cell_keep e5 hb
  replace e6 := cell_keep e6 hb
  replace e7 := cell_keep e7 hb
  replace e8 := cell_keep e8 hb
  replace q0 := cell_keep q0 hb
  replace q1 := cell_keep q1 hb
  replace q2 := cell_keep q2 hb
  replace q3 := cell_keep q3 hb
  replace q4 := cell_keep q4 hb
  replace q5 := cell_keep q5 hb
  replace q6 := cell_keep q6 hb
  replace q7 := cell_keep q7 hb
  replace q8 := cell_keep q8 hb
  replace hat := hat.below hb
  replace hF := hF.below hb
  replace hw6 := hw6.below hb
  replace h4 := h4.below hb
  replace hg := hg.below hb
  replace hf4 := hf4.below hb
  replace hfg := hfg.below hb
  replace hz := below_trans hz hb
  clear hb
  go_wp2_with fail
  go_region_held3 (fun w' => Below y7.heap.size y7 w' ∧ w'.cell? ⟨w.heap.size, 0, none⟩ = some (.int .i64 k) ∧ w'.cell? ⟨w.heap.size, 1, none⟩ = some (.string nm) ∧ w'.cell? ⟨w.heap.size, 2, none⟩ = some (.int .i64 num) ∧ w'.cell? ⟨w.heap.size, 3, none⟩ = some (.int .i64 k1) ∧ w'.cell? ⟨w.heap.size, 4, none⟩ = some (.slice a1 n1 c1) ∧ w'.cell? ⟨w.heap.size, 5, none⟩ = some (.int .i64 k2) ∧ w'.cell? ⟨w.heap.size, 6, none⟩ = some (.slice a2 n2 c2) ∧ w'.cell? ⟨w.heap.size, 7, none⟩ = some (.int .i64 lb) ∧ w'.cell? ⟨w.heap.size, 8, none⟩ = some (.slice a3 n3 c3) ∧ w'.cell? ⟨y4.heap.size, 0, none⟩ = some (.int .i64 k4) ∧ w'.cell? ⟨y4.heap.size, 1, none⟩ = some (.string nm4) ∧ w'.cell? ⟨y4.heap.size, 2, none⟩ = some (.int .i64 num4) ∧ w'.cell? ⟨y4.heap.size, 3, none⟩ = some (.int .i64 k14) ∧ w'.cell? ⟨y4.heap.size, 4, none⟩ = some (.slice a14 n14 c14) ∧ w'.cell? ⟨y4.heap.size, 5, none⟩ = some (.int .i64 k24) ∧ w'.cell? ⟨y4.heap.size, 6, none⟩ = some (.slice a24 n24 c24) ∧ w'.cell? ⟨y4.heap.size, 7, none⟩ = some (.int .i64 lb4) ∧ w'.cell? ⟨y4.heap.size, 8, none⟩ = some (.slice a34 n34 c34))
    ((refine (fun hB => ⟨hB, cell_keep x0 hB, cell_keep x1 hB, cell_keep x2 hB, cell_keep x3 hB, cell_keep x4 hB, cell_keep x5 hB, cell_keep x6 hB, cell_keep x7 hB, cell_keep x8 hB, cell_keep q0 hB, cell_keep q1 hB, cell_keep q2 hB, cell_keep q3 hB, cell_keep q4 hB, cell_keep q5 hB, cell_keep q6 hB, cell_keep q7 hB, cell_keep q8 hB⟩ : Below y7.heap.size y7 _ → _) ?_; (first | exact below_drew y7 | exact hk1 | exact hk2)))
    (first
      | (go_at_call 9; refine (toTerm_any t _ fp _ (hat.below (below_drew y7)) hc).mono ?_; rintro e y8 ⟨uu8, gg8, rfl, hu, hgg, hy⟩; have hk1 := below_trans (below_drew y7) hy)
      | (go_at_call 11; refine (eqTerm_any t _ _ _ _ _ (h4.below hk1) hu).mono ?_; rintro e y9 ⟨rfl, hyy⟩; have hk2 := below_trans hk1 hyy))
  replace x0 := cell_keep x0 hk2
  replace x1 := cell_keep x1 hk2
  replace x2 := cell_keep x2 hk2
  replace x3 := cell_keep x3 hk2
  replace x4 := cell_keep x4 hk2
  replace x5 := cell_keep x5 hk2
  replace x6 := cell_keep x6 hk2
  replace x7 := cell_keep x7 hk2
  replace x8 := cell_keep x8 hk2
  replace e0 := cell_keep e0 hk2
  replace e1 := cell_keep e1 hk2
  replace e2 := cell_keep e2 hk2
  replace e3 := cell_keep e3 hk2
  replace e4 := cell_keep e4 hk2
  replace e5 := cell_keep e5 hk2
  replace e6 := cell_keep e6 hk2
  replace e7 := cell_keep e7 hk2
  replace e8 := cell_keep e8 hk2
  replace q0 := cell_keep q0 hk2
  replace q1 := cell_keep q1 hk2
  replace q2 := cell_keep q2 hk2
  replace q3 := cell_keep q3 hk2
  replace q4 := cell_keep q4 hk2
  replace q5 := cell_keep q5 hk2
  replace q6 := cell_keep q6 hk2
  replace q7 := cell_keep q7 hk2
  replace q8 := cell_keep q8 hk2
  replace g0 := cell_keep g0 hk2
  replace g1 := cell_keep g1 hk2
  replace g2 := cell_keep g2 hk2
  replace g3 := cell_keep g3 hk2
  replace g4 := cell_keep g4 hk2
  replace g5 := cell_keep g5 hk2
  replace g6 := cell_keep g6 hk2
  replace g7 := cell_keep g7 hk2
  replace g8 := cell_keep g8 hk2
  replace hat := hat.below hk2
  replace hF := hF.below hk2
  replace hw6 := hw6.below hk2
  replace h4 := h4.below hk2
  replace hg := hg.below hk2
  replace hf4 := hf4.below hk2
  replace hfg := hfg.below hk2
  replace hz := below_trans hz hk2
  clear hk1 hk2 hu hgg hy hyy
  go_wp2_with fail
  have hRA : Within 0 w.heap.size fp := fun b hb => ⟨Nat.zero_le _, hlA b hb⟩
  have hRw : Within 0 wc.heap.size f6 := fun b hb => ⟨Nat.zero_le _, hl6 b hb⟩
  have hFz : 0 < w.heap.size := hF0
  refine (markTerm_any t _ f4 1 _ _ h4 hf4.1 (fun b hb => (hf4.2 b hb).2.2) rfl hnum).mono ?_
  rintro e y12 ⟨rfl, _, hon⟩
  clear q0 q1 q2 q3 q4 q5 q6 q7 q8 h4 hf4
  replace x0 := cell_only x0 hon (by first | exact hR4.low (by omega) | exact hR4.high (by omega))
  replace x1 := cell_only x1 hon (by first | exact hR4.low (by omega) | exact hR4.high (by omega))
  replace x2 := cell_only x2 hon (by first | exact hR4.low (by omega) | exact hR4.high (by omega))
  replace x3 := cell_only x3 hon (by first | exact hR4.low (by omega) | exact hR4.high (by omega))
  replace x4 := cell_only x4 hon (by first | exact hR4.low (by omega) | exact hR4.high (by omega))
  replace x5 := cell_only x5 hon (by first | exact hR4.low (by omega) | exact hR4.high (by omega))
  replace x6 := cell_only x6 hon (by first | exact hR4.low (by omega) | exact hR4.high (by omega))
  replace x7 := cell_only x7 hon (by first | exact hR4.low (by omega) | exact hR4.high (by omega))
  replace x8 := cell_only x8 hon (by first | exact hR4.low (by omega) | exact hR4.high (by omega))
  replace e0 := cell_only e0 hon (by first | exact hR4.low (by omega) | exact hR4.high (by omega))
  replace e1 := cell_only e1 hon (by first | exact hR4.low (by omega) | exact hR4.high (by omega))
  replace e2 := cell_only e2 hon (by first | exact hR4.low (by omega) | exact hR4.high (by omega))
  replace e3 := cell_only e3 hon (by first | exact hR4.low (by omega) | exact hR4.high (by omega))
  replace e4 := cell_only e4 hon (by first | exact hR4.low (by omega) | exact hR4.high (by omega))
  replace e5 := cell_only e5 hon (by first | exact hR4.low (by omega) | exact hR4.high (by omega))
  replace e6 := cell_only e6 hon (by first | exact hR4.low (by omega) | exact hR4.high (by omega))
  replace e7 := cell_only e7 hon (by first | exact hR4.low (by omega) | exact hR4.high (by omega))
  replace e8 := cell_only e8 hon (by first | exact hR4.low (by omega) | exact hR4.high (by omega))
  replace g0 := cell_only g0 hon (by first | exact hR4.low (by omega) | exact hR4.high (by omega))
  replace g1 := cell_only g1 hon (by first | exact hR4.low (by omega) | exact hR4.high (by omega))
  replace g2 := cell_only g2 hon (by first | exact hR4.low (by omega) | exact hR4.high (by omega))
  replace g3 := cell_only g3 hon (by first | exact hR4.low (by omega) | exact hR4.high (by omega))
  replace g4 := cell_only g4 hon (by first | exact hR4.low (by omega) | exact hR4.high (by omega))
  replace g5 := cell_only g5 hon (by first | exact hR4.low (by omega) | exact hR4.high (by omega))
  replace g6 := cell_only g6 hon (by first | exact hR4.low (by omega) | exact hR4.high (by omega))
  replace g7 := cell_only g7 hon (by first | exact hR4.low (by omega) | exact hR4.high (by omega))
  replace g8 := cell_only g8 hon (by first | exact hR4.low (by omega) | exact hR4.high (by omega))
  replace hat := hat.only hon (hR4.apart hRA (by omega))
  replace hw6 := hw6.only hon (hR4.apart hRw (by omega))
  replace hg := hg.only hon (hR4.apart hR6 (by omega))
  replace hF : Forms _ := fun j hj => cell_only (hF j hj) hon (hR4.low (by omega))
  replace hfg := hfg.only hon
  replace hz := belowOnly hz hon (by have := hz.size; omega) (fun b hb => by have := (hR4 b hb).1; omega)
  clear hon
  go_wp2_with fail
  refine (eqTerm_any E _ _ _ _ _ hg hw6).mono ?_
  rintro e y14 ⟨rfl, hb⟩
  replace x0 := cell_keep x0 hb
  replace x1 := cell_keep x1 hb
  replace x2 := cell_keep x2 hb
  replace x3 := cell_keep x3 hb
  replace x4 := cell_keep x4 hb
  replace x5 := cell_keep x5 hb
  replace x6 := cell_keep x6 hb
  replace x7 := cell_keep x7 hb
  replace x8 := cell_keep x8 hb
  replace e0 := cell_keep e0 hb
  replace e1 := cell_keep e1 hb
  replace e2 := cell_keep e2 hb
  replace e3 := cell_keep e3 hb
  replace e4 := cell_keep e4 hb
  replace e5 := cell_keep e5 hb
  replace e6 := cell_keep e6 hb
  replace e7 := cell_keep e7 hb
  replace e8 := cell_keep e8 hb
  replace g0 := cell_keep g0 hb
  replace g1 := cell_keep g1 hb
  replace g2 := cell_keep g2 hb
  replace g3 := cell_keep g3 hb
  replace g4 := cell_keep g4 hb
  replace g5 := cell_keep g5 hb
  replace g6 := cell_keep g6 hb
  replace g7 := cell_keep g7 hb
  replace g8 := cell_keep g8 hb
  replace hat := hat.below hb
  replace hF := hF.below hb
  replace hw6 := hw6.below hb
  replace hg := hg.below hb
  replace hfg := hfg.below hb
  replace hz := below_trans hz hb
  clear hb
  go_wp2_with fail
  refine (markTerm_any E _ fg 1 _ _ hg hfg.1 (fun b hb => (hfg.2 b hb).2.2) rfl hnum2).mono ?_
  rintro e y15 ⟨rfl, hg, hon⟩
  replace x0 := cell_only x0 hon (by first | exact hR6.low (by omega) | exact hR6.high (by omega))
  replace x1 := cell_only x1 hon (by first | exact hR6.low (by omega) | exact hR6.high (by omega))
  replace x2 := cell_only x2 hon (by first | exact hR6.low (by omega) | exact hR6.high (by omega))
  replace x3 := cell_only x3 hon (by first | exact hR6.low (by omega) | exact hR6.high (by omega))
  replace x4 := cell_only x4 hon (by first | exact hR6.low (by omega) | exact hR6.high (by omega))
  replace x5 := cell_only x5 hon (by first | exact hR6.low (by omega) | exact hR6.high (by omega))
  replace x6 := cell_only x6 hon (by first | exact hR6.low (by omega) | exact hR6.high (by omega))
  replace x7 := cell_only x7 hon (by first | exact hR6.low (by omega) | exact hR6.high (by omega))
  replace x8 := cell_only x8 hon (by first | exact hR6.low (by omega) | exact hR6.high (by omega))
  replace e0 := cell_only e0 hon (by first | exact hR6.low (by omega) | exact hR6.high (by omega))
  replace e1 := cell_only e1 hon (by first | exact hR6.low (by omega) | exact hR6.high (by omega))
  replace e2 := cell_only e2 hon (by first | exact hR6.low (by omega) | exact hR6.high (by omega))
  replace e3 := cell_only e3 hon (by first | exact hR6.low (by omega) | exact hR6.high (by omega))
  replace e4 := cell_only e4 hon (by first | exact hR6.low (by omega) | exact hR6.high (by omega))
  replace e5 := cell_only e5 hon (by first | exact hR6.low (by omega) | exact hR6.high (by omega))
  replace e6 := cell_only e6 hon (by first | exact hR6.low (by omega) | exact hR6.high (by omega))
  replace e7 := cell_only e7 hon (by first | exact hR6.low (by omega) | exact hR6.high (by omega))
  replace e8 := cell_only e8 hon (by first | exact hR6.low (by omega) | exact hR6.high (by omega))
  replace g0 := cell_only g0 hon (by first | exact hR6.low (by omega) | exact hR6.high (by omega))
  replace g1 := cell_only g1 hon (by first | exact hR6.low (by omega) | exact hR6.high (by omega))
  replace g2 := cell_only g2 hon (by first | exact hR6.low (by omega) | exact hR6.high (by omega))
  replace g3 := cell_only g3 hon (by first | exact hR6.low (by omega) | exact hR6.high (by omega))
  replace g4 := cell_only g4 hon (by first | exact hR6.low (by omega) | exact hR6.high (by omega))
  replace g5 := cell_only g5 hon (by first | exact hR6.low (by omega) | exact hR6.high (by omega))
  replace g6 := cell_only g6 hon (by first | exact hR6.low (by omega) | exact hR6.high (by omega))
  replace g7 := cell_only g7 hon (by first | exact hR6.low (by omega) | exact hR6.high (by omega))
  replace g8 := cell_only g8 hon (by first | exact hR6.low (by omega) | exact hR6.high (by omega))
  replace hat := hat.only hon (hR6.apart hRA (by omega))
  replace hw6 := hw6.only hon (hR6.apart hRw (by omega))
  replace hF : Forms _ := fun j hj => cell_only (hF j hj) hon (hR6.low (by omega))
  replace hz := belowOnly hz hon (by have := hz.size; omega) (fun b hb => by have := (hR6 b hb).1; omega)
  clear hon hfg
  go_wp2_with fail
  refine (heldTerm_any E _ fg 1 _ _ hg rfl hnum2).mono ?_
  rintro e y16 ⟨rfl, hb⟩
  replace x0 := cell_keep x0 hb
  replace x1 := cell_keep x1 hb
  replace x2 := cell_keep x2 hb
  replace x3 := cell_keep x3 hb
  replace x4 := cell_keep x4 hb
  replace x5 := cell_keep x5 hb
  replace x6 := cell_keep x6 hb
  replace x7 := cell_keep x7 hb
  replace x8 := cell_keep x8 hb
  replace e0 := cell_keep e0 hb
  replace e1 := cell_keep e1 hb
  replace e2 := cell_keep e2 hb
  replace e3 := cell_keep e3 hb
  replace e4 := cell_keep e4 hb
  replace e5 := cell_keep e5 hb
  replace e6 := cell_keep e6 hb
  replace e7 := cell_keep e7 hb
  replace e8 := cell_keep e8 hb
  replace g0 := cell_keep g0 hb
  replace g1 := cell_keep g1 hb
  replace g2 := cell_keep g2 hb
  replace g3 := cell_keep g3 hb
  replace g4 := cell_keep g4 hb
  replace g5 := cell_keep g5 hb
  replace g6 := cell_keep g6 hb
  replace g7 := cell_keep g7 hb
  replace g8 := cell_keep g8 hb
  replace hat := hat.below hb
  replace hF := hF.below hb
  replace hw6 := hw6.below hb
  replace hg := hg.below hb
  replace hz := below_trans hz hb
  clear hb
  go_wp2_with fail
  refine (toTerm_any t _ fp _ hat hc).mono ?_
  rintro e y17 ⟨v9, f9, rfl, h9, hf9, hb⟩
  replace x0 := cell_keep x0 hb
  replace x1 := cell_keep x1 hb
  replace x2 := cell_keep x2 hb
  replace x3 := cell_keep x3 hb
  replace x4 := cell_keep x4 hb
  replace x5 := cell_keep x5 hb
  replace x6 := cell_keep x6 hb
  replace x7 := cell_keep x7 hb
  replace x8 := cell_keep x8 hb
  replace e0 := cell_keep e0 hb
  replace e1 := cell_keep e1 hb
  replace e2 := cell_keep e2 hb
  replace e3 := cell_keep e3 hb
  replace e4 := cell_keep e4 hb
  replace e5 := cell_keep e5 hb
  replace e6 := cell_keep e6 hb
  replace e7 := cell_keep e7 hb
  replace e8 := cell_keep e8 hb
  replace g0 := cell_keep g0 hb
  replace g1 := cell_keep g1 hb
  replace g2 := cell_keep g2 hb
  replace g3 := cell_keep g3 hb
  replace g4 := cell_keep g4 hb
  replace g5 := cell_keep g5 hb
  replace g6 := cell_keep g6 hb
  replace g7 := cell_keep g7 hb
  replace g8 := cell_keep g8 hb
  replace hat := hat.below hb
  replace hF := hF.below hb
  replace hw6 := hw6.below hb
  replace hg := hg.below hb
  replace hz := below_trans hz hb
  clear hb hf9
  go_wp2_with fail
  refine (HIM.out _ _ _ hF h9).mono ?_
  rintro e y18 ⟨v8, f8, rfl, hw8, hf8, hb⟩
  obtain ⟨k8, nm8, num8, k18, n18, a18, c18, k28, n28, a28, c28, lb8, n38, a38, c38, rfl⟩ := hw8.agg
  have hb8a : Below y18.heap.size y18 (y18.alloc (Obj.cells #[.int .i64 k8, .string nm8, .int .i64 num8, .int .i64 k18, .slice a18 n18 c18, .int .i64 k28, .slice a28 n28 c28, .int .i64 lb8, .slice a38 n38 c38] 34)) := (Below.refl _ _).alloc (Nat.le_refl _) _
  replace hb := below_trans hb hb8a
  replace x0 := cell_keep x0 hb
  replace x1 := cell_keep x1 hb
  replace x2 := cell_keep x2 hb
  replace x3 := cell_keep x3 hb
  replace x4 := cell_keep x4 hb
  replace x5 := cell_keep x5 hb
  replace x6 := cell_keep x6 hb
  replace x7 := cell_keep x7 hb
  replace x8 := cell_keep x8 hb
  replace e0 := cell_keep e0 hb
  replace e1 := cell_keep e1 hb
  replace e2 := cell_keep e2 hb
  replace e3 := cell_keep e3 hb
  replace e4 := cell_keep e4 hb
  replace e5 := cell_keep e5 hb
  replace e6 := cell_keep e6 hb
  replace e7 := cell_keep e7 hb
  replace e8 := cell_keep e8 hb
  replace g0 := cell_keep g0 hb
  replace g1 := cell_keep g1 hb
  replace g2 := cell_keep g2 hb
  replace g3 := cell_keep g3 hb
  replace g4 := cell_keep g4 hb
  replace g5 := cell_keep g5 hb
  replace g6 := cell_keep g6 hb
  replace g7 := cell_keep g7 hb
  replace g8 := cell_keep g8 hb
  replace hat := hat.below hb
  replace hF := hF.below hb
  replace hw6 := hw6.below hb
  replace hg := hg.below hb
  replace hz := below_trans hz hb
  replace hw8 := hw8.below hb8a
  clear hb hb8a hf8 h9
  go_wp2_with fail
  refine (eqTerm_any E _ _ _ _ _ hw8 hw6).mono ?_
  rintro e y19 ⟨rfl, hb⟩
  replace x0 := cell_keep x0 hb
  replace x1 := cell_keep x1 hb
  replace x2 := cell_keep x2 hb
  replace x3 := cell_keep x3 hb
  replace x4 := cell_keep x4 hb
  replace x5 := cell_keep x5 hb
  replace x6 := cell_keep x6 hb
  replace x7 := cell_keep x7 hb
  replace x8 := cell_keep x8 hb
  replace e0 := cell_keep e0 hb
  replace e1 := cell_keep e1 hb
  replace e2 := cell_keep e2 hb
  replace e3 := cell_keep e3 hb
  replace e4 := cell_keep e4 hb
  replace e5 := cell_keep e5 hb
  replace e6 := cell_keep e6 hb
  replace e7 := cell_keep e7 hb
  replace e8 := cell_keep e8 hb
  replace g0 := cell_keep g0 hb
  replace g1 := cell_keep g1 hb
  replace g2 := cell_keep g2 hb
  replace g3 := cell_keep g3 hb
  replace g4 := cell_keep g4 hb
  replace g5 := cell_keep g5 hb
  replace g6 := cell_keep g6 hb
  replace g7 := cell_keep g7 hb
  replace g8 := cell_keep g8 hb
  replace hat := hat.below hb
  replace hF := hF.below hb
  replace hw6 := hw6.below hb
  replace hg := hg.below hb
  replace hz := below_trans hz hb
  clear hb
  go_wp2_with fail
  refine (heldTerm_any E _ fg 1 _ _ hg rfl hnum2).mono ?_
  rintro e y20 ⟨rfl, hb⟩
  replace hz := below_trans hz hb
  go_wp2_with fail
  go_ret
  exact ⟨rfl, hz⟩
end Go.Proofs.YtjpmlmdbldcbjaaDoor
