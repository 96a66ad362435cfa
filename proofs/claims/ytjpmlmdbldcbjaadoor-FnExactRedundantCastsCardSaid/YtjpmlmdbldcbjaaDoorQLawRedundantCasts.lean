/- The law on RedundantCasts: it returns true and writes nothing that was there. -/
import Derived.Deep.RegionHeld3
import Derived.Test.YtjpmlmdbldcbjaaDoorQPkB
import Derived.Test.YtjpmlmdbldcbjaaDoorQLs5
import Derived.Test.YtjpmlmdbldcbjaaDoorQLv8
namespace Go.Proofs.YtjpmlmdbldcbjaaDoor
open Go.RowKit

set_option maxHeartbeats 2000000 in
theorem lawRedundantCasts (t : Tm) (v : Value) (fp : List Nat) (w : World) (hF : Forms w) (hat : t.At w v fp) :
    Calls Tryd.prog 4 #[v] w fun e w' => e = .returned (.bool true) ∧ Below w.heap.size w w' := by
  obtain ⟨k, nm, num, k1, n1, a1, c1, k2, n2, a2, c2, lb, n3, a3, c3, rfl⟩ := hat.agg
  have hb0 : Below w.heap.size w (w.alloc (Obj.cells #[.int .i64 k, .string nm, .int .i64 num, .int .i64 k1, .slice a1 n1 c1, .int .i64 k2, .slice a2 n2 c2, .int .i64 lb, .slice a3 n3 c3] 27)) := (Below.refl _ _).alloc (Nat.le_refl _) _
  by_cases hc : t.sz ≤ 1048576
  case neg =>
    have HS := hid (show szM t.sz 1048576 = -1 by unfold szM; rw [if_neg (by omega)])
    go_enter Tryd.func4, Tryd.ntmps4
    go_wp2_with fail
    refine (szTerm_any t _ fp 1048576 _ (by omega) (by omega) (hat.below hb0)).mono ?_
    rw [HS.out]
    rintro e w1 ⟨rfl, hb1⟩
    go_wp2_with fail
    go_ret
    exact ⟨rfl, alloc1 hb1⟩
  have hpos : (0 : Int) ≤ 1048576 - (t.sz : Int) := by omega
  have HS := hid (show szM t.sz 1048576 = 1048576 - (t.sz : Int) by unfold szM; rw [if_pos (by omega)])
  go_enter Tryd.func4, Tryd.ntmps4
  go_wp2_with fail
  refine (szTerm_any t _ fp 1048576 _ (by omega) (by omega) (hat.below hb0)).mono ?_
  rw [HS.out]
  rintro e w1 ⟨rfl, hb1⟩
  have a1' := below_trans hb0 hb1
  obtain ⟨x0, x1, x2, x3, x4, x5, x6, x7, x8⟩ := box9 hb1
  go_wp2_with fail
  refine (toTerm_any t _ fp _ (hat.below a1') hc).mono ?_
  rintro e w2 ⟨v2, f2, rfl, hat2, hf2, hb2⟩
  have b2 := below_trans a1' hb2
  go_wp2_with fail
  refine (specRedundant t _ _ _ hc hat2).mono ?_
  rintro e w3 ⟨rfl, hb3⟩
  have b3 := below_trans b2 hb3
  replace x0 := cell_keep (cell_keep x0 hb2) hb3
  replace x1 := cell_keep (cell_keep x1 hb2) hb3
  replace x2 := cell_keep (cell_keep x2 hb2) hb3
  replace x3 := cell_keep (cell_keep x3 hb2) hb3
  replace x4 := cell_keep (cell_keep x4 hb2) hb3
  replace x5 := cell_keep (cell_keep x5 hb2) hb3
  replace x6 := cell_keep (cell_keep x6 hb2) hb3
  replace x7 := cell_keep (cell_keep x7 hb2) hb3
  replace x8 := cell_keep (cell_keep x8 hb2) hb3
  clear hat2 hf2 hb2 hb3
  go_wp2_with fail
  refine (toTerm_any t _ fp _ (hat.below b3) hc).mono ?_
  rintro e w4 ⟨v4, f4, rfl, hat4, hf4, hb4⟩
  obtain ⟨k4, nm4, num4, k14, n14, a14, c14, k24, n24, a24, c24, lb4, n34, a34, c34, rfl⟩ := hat4.agg
  have hal4 : Below w4.heap.size w4 (w4.alloc (Obj.cells #[.int .i64 k4, .string nm4, .int .i64 num4, .int .i64 k14, .slice a14 n14 c14, .int .i64 k24, .slice a24 n24 c24, .int .i64 lb4, .slice a34 n34 c34] 34)) := (Below.refl _ _).alloc (Nat.le_refl _) _
  have b4 := below_trans (below_trans b3 hb4) hal4
  go_wp2_with fail
  refine (implRedundant t _ _ _ hc (hF.below b4) (hat4.below hal4)).mono ?_
  rintro e w5 ⟨rfl, hb5⟩
  have b5 := below_trans b4 hb5
  obtain ⟨q0, q1, q2, q3, q4, q5, q6, q7, q8⟩ := box9 hb5
  replace x0 := cell_keep (cell_keep x0 hb4) (alloc1 hb5)
  replace x1 := cell_keep (cell_keep x1 hb4) (alloc1 hb5)
  replace x2 := cell_keep (cell_keep x2 hb4) (alloc1 hb5)
  replace x3 := cell_keep (cell_keep x3 hb4) (alloc1 hb5)
  replace x4 := cell_keep (cell_keep x4 hb4) (alloc1 hb5)
  replace x5 := cell_keep (cell_keep x5 hb4) (alloc1 hb5)
  replace x6 := cell_keep (cell_keep x6 hb4) (alloc1 hb5)
  replace x7 := cell_keep (cell_keep x7 hb4) (alloc1 hb5)
  replace x8 := cell_keep (cell_keep x8 hb4) (alloc1 hb5)
  have hat5 := hat.below b5
  have hatx := (hat4.below hal4).below hb5
  clear hat4 hal4 hb4 hb5
  go_wp2_with fail
  go_region_held3 (fun w' => Below w5.heap.size w5 w' ∧ w'.cell? ⟨w.heap.size, 0, none⟩ = some (.int .i64 k) ∧ w'.cell? ⟨w.heap.size, 1, none⟩ = some (.string nm) ∧ w'.cell? ⟨w.heap.size, 2, none⟩ = some (.int .i64 num) ∧ w'.cell? ⟨w.heap.size, 3, none⟩ = some (.int .i64 k1) ∧ w'.cell? ⟨w.heap.size, 4, none⟩ = some (.slice a1 n1 c1) ∧ w'.cell? ⟨w.heap.size, 5, none⟩ = some (.int .i64 k2) ∧ w'.cell? ⟨w.heap.size, 6, none⟩ = some (.slice a2 n2 c2) ∧ w'.cell? ⟨w.heap.size, 7, none⟩ = some (.int .i64 lb) ∧ w'.cell? ⟨w.heap.size, 8, none⟩ = some (.slice a3 n3 c3) ∧ w'.cell? ⟨w4.heap.size, 0, none⟩ = some (.int .i64 k4) ∧ w'.cell? ⟨w4.heap.size, 1, none⟩ = some (.string nm4) ∧ w'.cell? ⟨w4.heap.size, 2, none⟩ = some (.int .i64 num4) ∧ w'.cell? ⟨w4.heap.size, 3, none⟩ = some (.int .i64 k14) ∧ w'.cell? ⟨w4.heap.size, 4, none⟩ = some (.slice a14 n14 c14) ∧ w'.cell? ⟨w4.heap.size, 5, none⟩ = some (.int .i64 k24) ∧ w'.cell? ⟨w4.heap.size, 6, none⟩ = some (.slice a24 n24 c24) ∧ w'.cell? ⟨w4.heap.size, 7, none⟩ = some (.int .i64 lb4) ∧ w'.cell? ⟨w4.heap.size, 8, none⟩ = some (.slice a34 n34 c34))
    ((refine (fun hB => ⟨hB, cell_keep x0 hB, cell_keep x1 hB, cell_keep x2 hB, cell_keep x3 hB, cell_keep x4 hB, cell_keep x5 hB, cell_keep x6 hB, cell_keep x7 hB, cell_keep x8 hB, cell_keep q0 hB, cell_keep q1 hB, cell_keep q2 hB, cell_keep q3 hB, cell_keep q4 hB, cell_keep q5 hB, cell_keep q6 hB, cell_keep q7 hB, cell_keep q8 hB⟩ : Below w5.heap.size w5 _ → _) ?_; (first | exact below_drew w5 | exact below_trans (below_drew w5) hb6 | exact below_trans (below_trans (below_drew w5) hb6) hb7)))
    (first
      | (go_at_call 9; refine (toTerm_any t _ fp _ (hat5.below (below_drew w5)) hc).mono ?_; rintro e w6 ⟨v6, f6, rfl, hat6, hf6, hb6⟩)
      | (go_at_call 11; refine (eqTerm_any t _ _ _ _ _ (hatx.below (below_trans (below_drew w5) hb6)) hat6).mono ?_; rintro e w7 ⟨rfl, hb7⟩))
  go_wp2_with fail
  go_ret
  exact ⟨rfl, below_trans b5 (below_trans (below_trans (below_drew w5) hb6) hb7)⟩
end Go.Proofs.YtjpmlmdbldcbjaaDoor
