/- The law on CoercionTyped: it returns true and writes nothing that was there. -/
import Derived.Test.YtephhhnoobkbhaaCSz
import Derived.Test.YtephhhnoobkbhaaCTo
import Derived.Test.YtephhhnoobkbhaaCEq
import Derived.Test.YtephhhnoobkbhaaSz
import Derived.Test.YtephhhnoobkbhaaTo
import Derived.Test.YtephhhnoobkbhaaEq
import Derived.Test.YtephhhnoobkbhaaCk
import Derived.Test.YtephhhnoobkbhaaWalkT
import Derived.Test.YtephhhnoobkbhaaCty
namespace Go.Proofs.Ytephhhnoobkbhaa
open Go.RowKit

set_option maxRecDepth 100000 in
set_option maxHeartbeats 4000000 in
theorem lawCoercionTyped (c : Co) (v1 : Value) (fp1 : List Nat) (f : Ty) (v2 : Value) (fp2 : List Nat) (t : Ty) (v3 : Value) (fp3 : List Nat) (w : World) (hc0 : c.At w v1 fp1) (hf0 : f.At w v2 fp2) (ht0 : t.At w v3 fp3) :
    Calls Try.prog 10 #[v1, v2, v3] w fun e w' => e = .returned (.bool true) ∧ Below w.heap.size w w' := by
  obtain ⟨k, g, l, m, a, cap, rfl⟩ := hc0.agg
  obtain ⟨kf, mf, af, capf, rfl⟩ := hf0.agg
  obtain ⟨kt, mt, at', capt, rfl⟩ := ht0.agg
  have hz : Below w.heap.size w (((w.alloc (Obj.cells #[.int .i64 k, .int .i64 g, .int .i64 l, .slice a m cap] 47)).alloc (Obj.cells #[.int .i64 kf, .slice af mf capf] 24)).alloc (Obj.cells #[.int .i64 kt, .slice at' mt capt] 24)) := (((Below.refl _ _).alloc (Nat.le_refl _) _).alloc (by simp) _).alloc (by simp; omega) _
  have hA := hc0.below hz
  have hF := hf0.below hz
  have hT := ht0.below hz
  clear hc0 hf0 ht0
  by_cases hc0 : (c.cnt : Int) ≤ 1048576
  case neg =>
    go_enter Try.func10, Try.ntmps10
    go_wp2_with fail
    refine (szCoer_none c _ _ 1048576 _ (by omega) (by omega) hA (by omega)).mono ?_
    rintro e z0 ⟨rfl, hb0⟩
    go_wp2_with fail
    go_ret
    exact ⟨rfl, below_trans hz hb0⟩
  have hp0 : (0 : Int) ≤ 1048576 - (c.cnt : Int) := by omega
  by_cases hc1 : (f.cnt : Int) ≤ 1048576 - (c.cnt : Int)
  case neg =>
    go_enter Try.func10, Try.ntmps10
    go_wp2_with fail
    refine (szCoer_some c _ _ 1048576 _ (by omega) (by omega) hA (by omega)).mono ?_
    rintro e z0 ⟨rfl, hb0⟩
    obtain ⟨bC, bF, bT⟩ := three3 hb0
    have xc0 : (z0).cell? ⟨w.heap.size, 0, none⟩ = some (.int .i64 k) := by rw [cell_of_block bC]; rfl
    have xc1 : (z0).cell? ⟨w.heap.size, 1, none⟩ = some (.int .i64 g) := by rw [cell_of_block bC]; rfl
    have xc2 : (z0).cell? ⟨w.heap.size, 2, none⟩ = some (.int .i64 l) := by rw [cell_of_block bC]; rfl
    have xc3 : (z0).cell? ⟨w.heap.size, 3, none⟩ = some (.slice a m cap) := by rw [cell_of_block bC]; rfl
    have xf0 : (z0).cell? ⟨w.heap.size + 1, 0, none⟩ = some (.int .i64 kf) := by rw [cell_of_block bF]; rfl
    have xf1 : (z0).cell? ⟨w.heap.size + 1, 1, none⟩ = some (.slice af mf capf) := by rw [cell_of_block bF]; rfl
    have xt0 : (z0).cell? ⟨w.heap.size + 1 + 1, 0, none⟩ = some (.int .i64 kt) := by rw [cell_of_block bT]; rfl
    have xt1 : (z0).cell? ⟨w.heap.size + 1 + 1, 1, none⟩ = some (.slice at' mt capt) := by rw [cell_of_block bT]; rfl
    clear bC bF bT
    replace hA := hA.below hb0
    replace hF := hF.below hb0
    replace hT := hT.below hb0
    replace hz := below_trans hz hb0
    clear hb0
    go_wp2_with fail
    refine (szType_none f _ _ _ _ (by omega) (by omega) hF (by omega)).mono ?_
    rintro e z1 ⟨rfl, hb1⟩
    go_wp2_with fail
    go_ret
    exact ⟨rfl, below_trans hz hb1⟩
  have hp1 : (0 : Int) ≤ 1048576 - (c.cnt : Int) - (f.cnt : Int) := by omega
  by_cases hc2 : (t.cnt : Int) ≤ 1048576 - (c.cnt : Int) - (f.cnt : Int)
  case neg =>
    go_enter Try.func10, Try.ntmps10
    go_wp2_with fail
    refine (szCoer_some c _ _ 1048576 _ (by omega) (by omega) hA (by omega)).mono ?_
    rintro e z0 ⟨rfl, hb0⟩
    obtain ⟨bC, bF, bT⟩ := three3 hb0
    have xc0 : (z0).cell? ⟨w.heap.size, 0, none⟩ = some (.int .i64 k) := by rw [cell_of_block bC]; rfl
    have xc1 : (z0).cell? ⟨w.heap.size, 1, none⟩ = some (.int .i64 g) := by rw [cell_of_block bC]; rfl
    have xc2 : (z0).cell? ⟨w.heap.size, 2, none⟩ = some (.int .i64 l) := by rw [cell_of_block bC]; rfl
    have xc3 : (z0).cell? ⟨w.heap.size, 3, none⟩ = some (.slice a m cap) := by rw [cell_of_block bC]; rfl
    have xf0 : (z0).cell? ⟨w.heap.size + 1, 0, none⟩ = some (.int .i64 kf) := by rw [cell_of_block bF]; rfl
    have xf1 : (z0).cell? ⟨w.heap.size + 1, 1, none⟩ = some (.slice af mf capf) := by rw [cell_of_block bF]; rfl
    have xt0 : (z0).cell? ⟨w.heap.size + 1 + 1, 0, none⟩ = some (.int .i64 kt) := by rw [cell_of_block bT]; rfl
    have xt1 : (z0).cell? ⟨w.heap.size + 1 + 1, 1, none⟩ = some (.slice at' mt capt) := by rw [cell_of_block bT]; rfl
    clear bC bF bT
    replace hA := hA.below hb0
    replace hF := hF.below hb0
    replace hT := hT.below hb0
    replace hz := below_trans hz hb0
    clear hb0
    go_wp2_with fail
    refine (szType_some f _ _ _ _ (by omega) (by omega) hF (by omega)).mono ?_
    rintro e z1 ⟨rfl, hb1⟩
    replace xc0 := cell_keep xc0 hb1
    replace xc1 := cell_keep xc1 hb1
    replace xc2 := cell_keep xc2 hb1
    replace xc3 := cell_keep xc3 hb1
    replace xf0 := cell_keep xf0 hb1
    replace xf1 := cell_keep xf1 hb1
    replace xt0 := cell_keep xt0 hb1
    replace xt1 := cell_keep xt1 hb1
    replace hA := hA.below hb1
    replace hF := hF.below hb1
    replace hT := hT.below hb1
    replace hz := below_trans hz hb1
    clear hb1
    go_wp2_with fail
    refine (szType_none t _ _ _ _ (by omega) (by omega) hT (by omega)).mono ?_
    rintro e z2 ⟨rfl, hb2⟩
    go_wp2_with fail
    go_ret
    exact ⟨rfl, below_trans hz hb2⟩
  have hp2 : (0 : Int) ≤ 1048576 - (c.cnt : Int) - (f.cnt : Int) - (t.cnt : Int) := by omega
  have hnc : c.cnt ≤ 1048576 := by omega
  have hnf : f.cnt ≤ 1048576 := by omega
  have hnt : t.cnt ≤ 1048576 := by omega
  go_enter Try.func10, Try.ntmps10
  go_wp2_with fail
  refine (szCoer_some c _ _ 1048576 _ (by omega) (by omega) hA (by omega)).mono ?_
  rintro e z0 ⟨rfl, hb0⟩
  obtain ⟨bC, bF, bT⟩ := three3 hb0
  have xc0 : (z0).cell? ⟨w.heap.size, 0, none⟩ = some (.int .i64 k) := by rw [cell_of_block bC]; rfl
  have xc1 : (z0).cell? ⟨w.heap.size, 1, none⟩ = some (.int .i64 g) := by rw [cell_of_block bC]; rfl
  have xc2 : (z0).cell? ⟨w.heap.size, 2, none⟩ = some (.int .i64 l) := by rw [cell_of_block bC]; rfl
  have xc3 : (z0).cell? ⟨w.heap.size, 3, none⟩ = some (.slice a m cap) := by rw [cell_of_block bC]; rfl
  have xf0 : (z0).cell? ⟨w.heap.size + 1, 0, none⟩ = some (.int .i64 kf) := by rw [cell_of_block bF]; rfl
  have xf1 : (z0).cell? ⟨w.heap.size + 1, 1, none⟩ = some (.slice af mf capf) := by rw [cell_of_block bF]; rfl
  have xt0 : (z0).cell? ⟨w.heap.size + 1 + 1, 0, none⟩ = some (.int .i64 kt) := by rw [cell_of_block bT]; rfl
  have xt1 : (z0).cell? ⟨w.heap.size + 1 + 1, 1, none⟩ = some (.slice at' mt capt) := by rw [cell_of_block bT]; rfl
  clear bC bF bT
  replace hA := hA.below hb0
  replace hF := hF.below hb0
  replace hT := hT.below hb0
  replace hz := below_trans hz hb0
  clear hb0
  go_wp2_with fail
  refine (szType_some f _ _ _ _ (by omega) (by omega) hF (by omega)).mono ?_
  rintro e z1 ⟨rfl, hb1⟩
  replace xc0 := cell_keep xc0 hb1
  replace xc1 := cell_keep xc1 hb1
  replace xc2 := cell_keep xc2 hb1
  replace xc3 := cell_keep xc3 hb1
  replace xf0 := cell_keep xf0 hb1
  replace xf1 := cell_keep xf1 hb1
  replace xt0 := cell_keep xt0 hb1
  replace xt1 := cell_keep xt1 hb1
  replace hA := hA.below hb1
  replace hF := hF.below hb1
  replace hT := hT.below hb1
  replace hz := below_trans hz hb1
  clear hb1
  go_wp2_with fail
  refine (szType_some t _ _ _ _ (by omega) (by omega) hT (by omega)).mono ?_
  rintro e z2 ⟨rfl, hb2⟩
  replace xc0 := cell_keep xc0 hb2
  replace xc1 := cell_keep xc1 hb2
  replace xc2 := cell_keep xc2 hb2
  replace xc3 := cell_keep xc3 hb2
  replace xf0 := cell_keep xf0 hb2
  replace xf1 := cell_keep xf1 hb2
  replace xt0 := cell_keep xt0 hb2
  replace xt1 := cell_keep xt1 hb2
  replace hA := hA.below hb2
  replace hF := hF.below hb2
  replace hT := hT.below hb2
  replace hz := below_trans hz hb2
  clear hb2
  go_wp2_with fail
  clear hc0 hc1 hc2 hp0 hp1 hp2
  refine wp_region_held_drew (S := (fun w' => Below z2.heap.size z2 w' ∧ w'.cell? ⟨w.heap.size, 0, none⟩ = some (.int .i64 k) ∧ w'.cell? ⟨w.heap.size, 1, none⟩ = some (.int .i64 g) ∧ w'.cell? ⟨w.heap.size, 2, none⟩ = some (.int .i64 l) ∧ w'.cell? ⟨w.heap.size, 3, none⟩ = some (.slice a m cap) ∧ w'.cell? ⟨w.heap.size + 1, 0, none⟩ = some (.int .i64 kf) ∧ w'.cell? ⟨w.heap.size + 1, 1, none⟩ = some (.slice af mf capf) ∧ w'.cell? ⟨w.heap.size + 1 + 1, 0, none⟩ = some (.int .i64 kt) ∧ w'.cell? ⟨w.heap.size + 1 + 1, 1, none⟩ = some (.slice at' mt capt))) (by kernel_rfl) ?_ (fun hS0 => ?_)
  · (refine (fun hB => ⟨hB, cell_keep xc0 hB, cell_keep xc1 hB, cell_keep xc2 hB, cell_keep xc3 hB, cell_keep xf0 hB, cell_keep xf1 hB, cell_keep xt0 hB, cell_keep xt1 hB⟩ : Below z2.heap.size z2 _ → _) ?_; exact below_drew _)
  refine regTake (i := 0) (v := ?vr11_0) rfl (by kernel_rfl) (by kernel_rfl) (by kernel_rfl) (fun _ _ _ h => h) (Or.inl ⟨by rfl, ?hyr11_0⟩) (by assumption) ?_
  case hyr11_0 => (intro w hSw; (try dsimp only at hSw); go_simp; (try with_reducible rfl))
  try simp only [Act.put, List.setIfInBounds_toArray, List.set_cons_zero, List.set_cons_succ]
  refine regTake (i := 2) (v := ?vr11_2) rfl (by kernel_rfl) (by kernel_rfl) (by kernel_rfl) (fun _ _ _ h => h) (Or.inl ⟨by rfl, ?hyr11_2⟩) (by assumption) ?_
  case hyr11_2 => (intro w hSw; (try dsimp only at hSw); go_simp; (try with_reducible rfl))
  try simp only [Act.put, List.setIfInBounds_toArray, List.set_cons_zero, List.set_cons_succ]
  refine regTake (i := 4) (v := ?vr11_4) rfl (by kernel_rfl) (by kernel_rfl) (by kernel_rfl) (fun _ _ _ h => h) (Or.inl ⟨by rfl, ?hyr11_4⟩) (by assumption) ?_
  case hyr11_4 => (intro w hSw; (try dsimp only at hSw); go_simp; (try with_reducible rfl))
  try simp only [Act.put, List.setIfInBounds_toArray, List.set_cons_zero, List.set_cons_succ]
  refine wpAnyH_ready (rs := [1]) (by kernel_rfl) (by simp) ?_
  refine regCons rfl (fun K hK => ?_)
  go_simp
  refine (toCoer_any c _ _ _ (hA.below (below_drew z2)) hnc).mono ?_
  rintro e y0 ⟨u0, g0, rfl, hu0, hg0, hy0⟩
  have hk0 := below_trans (below_drew z2) hy0
  refine hK.out _ _ ?_ (fun hS1 => ?_)
  · (refine (fun hB => ⟨hB, cell_keep xc0 hB, cell_keep xc1 hB, cell_keep xc2 hB, cell_keep xc3 hB, cell_keep xf0 hB, cell_keep xf1 hB, cell_keep xt0 hB, cell_keep xt1 hB⟩ : Below z2.heap.size z2 _ → _) ?_; exact hk0)
  clear hK K hS0
  try simp only [Act.put, List.setIfInBounds_toArray, List.set_cons_zero, List.set_cons_succ]
  refine wpAnyH_ready (rs := [3]) (by kernel_rfl) (by simp) ?_
  refine regCons rfl (fun K hK => ?_)
  go_simp
  refine (toType_any f _ _ _ (hF.below hk0) hnf).mono ?_
  rintro e y1 ⟨u1, g1, rfl, hu1, hg1, hy1⟩
  have hk1 := below_trans hk0 hy1
  refine hK.out _ _ ?_ (fun hS2 => ?_)
  · (refine (fun hB => ⟨hB, cell_keep xc0 hB, cell_keep xc1 hB, cell_keep xc2 hB, cell_keep xc3 hB, cell_keep xf0 hB, cell_keep xf1 hB, cell_keep xt0 hB, cell_keep xt1 hB⟩ : Below z2.heap.size z2 _ → _) ?_; exact hk1)
  clear hK K hS1
  try simp only [Act.put, List.setIfInBounds_toArray, List.set_cons_zero, List.set_cons_succ]
  refine wpAnyH_ready (rs := [5]) (by kernel_rfl) (by simp) ?_
  refine regCons rfl (fun K hK => ?_)
  go_simp
  refine (toType_any t _ _ _ (hT.below hk1) hnt).mono ?_
  rintro e y2 ⟨u2, g2, rfl, hu2, hg2, hy2⟩
  have hk2 := below_trans hk1 hy2
  refine hK.out _ _ ?_ (fun hS3 => ?_)
  · (refine (fun hB => ⟨hB, cell_keep xc0 hB, cell_keep xc1 hB, cell_keep xc2 hB, cell_keep xc3 hB, cell_keep xf0 hB, cell_keep xf1 hB, cell_keep xt0 hB, cell_keep xt1 hB⟩ : Below z2.heap.size z2 _ → _) ?_; exact hk2)
  clear hK K hS2
  try simp only [Act.put, List.setIfInBounds_toArray, List.set_cons_zero, List.set_cons_succ]
  refine wpAnyH_ready (rs := [6]) (by kernel_rfl) (by simp) ?_
  refine regCons rfl (fun K hK => ?_)
  go_simp
  refine (specCoercionTyped_any c f t _ _ _ _ _ _ _ ((hu0.below hy1).below hy2) (hu1.below hy2) hu2).mono ?_
  rintro e y3 ⟨rfl, hy3⟩
  have hk3 := below_trans hk2 hy3
  refine hK.out _ _ ?_ (fun hS4 => ?_)
  · (refine (fun hB => ⟨hB, cell_keep xc0 hB, cell_keep xc1 hB, cell_keep xc2 hB, cell_keep xc3 hB, cell_keep xf0 hB, cell_keep xf1 hB, cell_keep xt0 hB, cell_keep xt1 hB⟩ : Below z2.heap.size z2 _ → _) ?_; exact hk3)
  clear hK K hS3
  try simp only [Act.put, List.setIfInBounds_toArray, List.set_cons_zero, List.set_cons_succ]
  refine regTake (i := 7) (v := ?vr11_7) rfl (by kernel_rfl) (by kernel_rfl) (by kernel_rfl) (fun _ _ _ h => h) (Or.inl ⟨by rfl, ?hyr11_7⟩) (by assumption) ?_
  case hyr11_7 => (intro w hSw; (try dsimp only at hSw); go_simp; (try with_reducible rfl))
  try simp only [Act.put, List.setIfInBounds_toArray, List.set_cons_zero, List.set_cons_succ]
  refine wpAnyH_done (by kernel_rfl) ?_ _
  clear hS4
  replace xc0 := cell_keep xc0 hk3
  replace xc1 := cell_keep xc1 hk3
  replace xc2 := cell_keep xc2 hk3
  replace xc3 := cell_keep xc3 hk3
  replace xf0 := cell_keep xf0 hk3
  replace xf1 := cell_keep xf1 hk3
  replace xt0 := cell_keep xt0 hk3
  replace xt1 := cell_keep xt1 hk3
  replace hA := hA.below hk3
  replace hF := hF.below hk3
  replace hT := hT.below hk3
  replace hz := below_trans hz hk3
  clear hk0 hk1 hk2 hk3 hu0 hu1 hu2 hg0 hg1 hg2 hy0 hy1 hy2 hy3
  go_wp2_with fail
  refine (toCoer_any c _ _ _ hA hnc).mono ?_
  rintro e y4 ⟨v4, f4, rfl, hu4, hf4, hb4⟩
  obtain ⟨k4, g4, l4, n4, c4, cap4, rfl⟩ := hu4.agg
  have hal4 : Below y4.heap.size y4 (y4.alloc (Obj.cells #[.int .i64 k4, .int .i64 g4, .int .i64 l4, .slice c4 n4 cap4] 52)) := (Below.refl _ _).alloc (Nat.le_refl _) _
  have hbb4 := below_trans hb4 hal4
  replace xc0 := cell_keep xc0 hbb4
  replace xc1 := cell_keep xc1 hbb4
  replace xc2 := cell_keep xc2 hbb4
  replace xc3 := cell_keep xc3 hbb4
  replace xf0 := cell_keep xf0 hbb4
  replace xf1 := cell_keep xf1 hbb4
  replace xt0 := cell_keep xt0 hbb4
  replace xt1 := cell_keep xt1 hbb4
  replace hA := hA.below hbb4
  replace hF := hF.below hbb4
  replace hT := hT.below hbb4
  replace hu4 := hu4.below hal4
  replace hz := below_trans hz hbb4
  clear hb4 hf4 hal4 hbb4
  go_wp2_with fail
  refine (toType_any f _ _ _ hF hnf).mono ?_
  rintro e y5 ⟨v5, f5, rfl, hu5, hf5, hb5⟩
  obtain ⟨k5, n5, c5, cap5, rfl⟩ := hu5.agg
  have hal5 : Below y5.heap.size y5 (y5.alloc (Obj.cells #[.int .i64 k5, .slice c5 n5 cap5] 28)) := (Below.refl _ _).alloc (Nat.le_refl _) _
  have hbb5 := below_trans hb5 hal5
  replace xc0 := cell_keep xc0 hbb5
  replace xc1 := cell_keep xc1 hbb5
  replace xc2 := cell_keep xc2 hbb5
  replace xc3 := cell_keep xc3 hbb5
  replace xf0 := cell_keep xf0 hbb5
  replace xf1 := cell_keep xf1 hbb5
  replace xt0 := cell_keep xt0 hbb5
  replace xt1 := cell_keep xt1 hbb5
  have bb4 := (hbb5.block y4.heap.size (by simp)).trans (alloc_new y4 _)
  have qc0 : (y5.alloc (Obj.cells #[.int .i64 k5, .slice c5 n5 cap5] 28)).cell? ⟨y4.heap.size, 0, none⟩ = some (.int .i64 k4) := by rw [cell_of_block bb4]; rfl
  have qc1 : (y5.alloc (Obj.cells #[.int .i64 k5, .slice c5 n5 cap5] 28)).cell? ⟨y4.heap.size, 1, none⟩ = some (.int .i64 g4) := by rw [cell_of_block bb4]; rfl
  have qc2 : (y5.alloc (Obj.cells #[.int .i64 k5, .slice c5 n5 cap5] 28)).cell? ⟨y4.heap.size, 2, none⟩ = some (.int .i64 l4) := by rw [cell_of_block bb4]; rfl
  have qc3 : (y5.alloc (Obj.cells #[.int .i64 k5, .slice c5 n5 cap5] 28)).cell? ⟨y4.heap.size, 3, none⟩ = some (.slice c4 n4 cap4) := by rw [cell_of_block bb4]; rfl
  clear bb4
  replace hA := hA.below hbb5
  replace hF := hF.below hbb5
  replace hT := hT.below hbb5
  replace hu4 := hu4.below hbb5
  replace hu5 := hu5.below hal5
  replace hz := below_trans hz hbb5
  clear hb5 hf5 hal5 hbb5
  go_wp2_with fail
  refine (toType_any t _ _ _ hT hnt).mono ?_
  rintro e y6 ⟨v6, f6, rfl, hu6, hf6, hb6⟩
  obtain ⟨k6, n6, c6, cap6, rfl⟩ := hu6.agg
  have hal6 : Below y6.heap.size y6 (y6.alloc (Obj.cells #[.int .i64 k6, .slice c6 n6 cap6] 28)) := (Below.refl _ _).alloc (Nat.le_refl _) _
  have hbb6 := below_trans hb6 hal6
  replace xc0 := cell_keep xc0 hbb6
  replace xc1 := cell_keep xc1 hbb6
  replace xc2 := cell_keep xc2 hbb6
  replace xc3 := cell_keep xc3 hbb6
  replace xf0 := cell_keep xf0 hbb6
  replace xf1 := cell_keep xf1 hbb6
  replace xt0 := cell_keep xt0 hbb6
  replace xt1 := cell_keep xt1 hbb6
  replace qc0 := cell_keep qc0 hbb6
  replace qc1 := cell_keep qc1 hbb6
  replace qc2 := cell_keep qc2 hbb6
  replace qc3 := cell_keep qc3 hbb6
  have bb5 := (hbb6.block y5.heap.size (by simp)).trans (alloc_new y5 _)
  have qf0 : (y6.alloc (Obj.cells #[.int .i64 k6, .slice c6 n6 cap6] 28)).cell? ⟨y5.heap.size, 0, none⟩ = some (.int .i64 k5) := by rw [cell_of_block bb5]; rfl
  have qf1 : (y6.alloc (Obj.cells #[.int .i64 k6, .slice c6 n6 cap6] 28)).cell? ⟨y5.heap.size, 1, none⟩ = some (.slice c5 n5 cap5) := by rw [cell_of_block bb5]; rfl
  clear bb5
  replace hA := hA.below hbb6
  replace hF := hF.below hbb6
  replace hT := hT.below hbb6
  replace hu4 := hu4.below hbb6
  replace hu5 := hu5.below hbb6
  replace hu6 := hu6.below hal6
  replace hz := below_trans hz hbb6
  clear hb6 hf6 hal6 hbb6
  go_wp2_with fail
  refine (implCoercionTyped_any c f t _ _ _ _ _ _ _ hu4 hu5 hu6).mono ?_
  rintro e y7 ⟨rfl, hb7⟩
  replace xc0 := cell_keep xc0 hb7
  replace xc1 := cell_keep xc1 hb7
  replace xc2 := cell_keep xc2 hb7
  replace xc3 := cell_keep xc3 hb7
  replace xf0 := cell_keep xf0 hb7
  replace xf1 := cell_keep xf1 hb7
  replace xt0 := cell_keep xt0 hb7
  replace xt1 := cell_keep xt1 hb7
  replace qc0 := cell_keep qc0 hb7
  replace qc1 := cell_keep qc1 hb7
  replace qc2 := cell_keep qc2 hb7
  replace qc3 := cell_keep qc3 hb7
  replace qf0 := cell_keep qf0 hb7
  replace qf1 := cell_keep qf1 hb7
  have bb6 := (hb7.block y6.heap.size (by simp)).trans (alloc_new y6 _)
  have qt0 : (y7).cell? ⟨y6.heap.size, 0, none⟩ = some (.int .i64 k6) := by rw [cell_of_block bb6]; rfl
  have qt1 : (y7).cell? ⟨y6.heap.size, 1, none⟩ = some (.slice c6 n6 cap6) := by rw [cell_of_block bb6]; rfl
  clear bb6
  replace hA := hA.below hb7
  replace hF := hF.below hb7
  replace hT := hT.below hb7
  replace hu4 := hu4.below hb7
  replace hu5 := hu5.below hb7
  replace hu6 := hu6.below hb7
  replace hz := below_trans hz hb7
  clear hb7
  go_wp2_with fail
  refine wp_region_held_drew (S := (fun w' => Below y7.heap.size y7 w' ∧ w'.cell? ⟨w.heap.size, 0, none⟩ = some (.int .i64 k) ∧ w'.cell? ⟨w.heap.size, 1, none⟩ = some (.int .i64 g) ∧ w'.cell? ⟨w.heap.size, 2, none⟩ = some (.int .i64 l) ∧ w'.cell? ⟨w.heap.size, 3, none⟩ = some (.slice a m cap) ∧ w'.cell? ⟨w.heap.size + 1, 0, none⟩ = some (.int .i64 kf) ∧ w'.cell? ⟨w.heap.size + 1, 1, none⟩ = some (.slice af mf capf) ∧ w'.cell? ⟨w.heap.size + 1 + 1, 0, none⟩ = some (.int .i64 kt) ∧ w'.cell? ⟨w.heap.size + 1 + 1, 1, none⟩ = some (.slice at' mt capt) ∧ w'.cell? ⟨y4.heap.size, 0, none⟩ = some (.int .i64 k4) ∧ w'.cell? ⟨y4.heap.size, 1, none⟩ = some (.int .i64 g4) ∧ w'.cell? ⟨y4.heap.size, 2, none⟩ = some (.int .i64 l4) ∧ w'.cell? ⟨y4.heap.size, 3, none⟩ = some (.slice c4 n4 cap4) ∧ w'.cell? ⟨y5.heap.size, 0, none⟩ = some (.int .i64 k5) ∧ w'.cell? ⟨y5.heap.size, 1, none⟩ = some (.slice c5 n5 cap5) ∧ w'.cell? ⟨y6.heap.size, 0, none⟩ = some (.int .i64 k6) ∧ w'.cell? ⟨y6.heap.size, 1, none⟩ = some (.slice c6 n6 cap6))) (by kernel_rfl) ?_ (fun hS0 => ?_)
  · (refine (fun hB => ⟨hB, cell_keep xc0 hB, cell_keep xc1 hB, cell_keep xc2 hB, cell_keep xc3 hB, cell_keep xf0 hB, cell_keep xf1 hB, cell_keep xt0 hB, cell_keep xt1 hB, cell_keep qc0 hB, cell_keep qc1 hB, cell_keep qc2 hB, cell_keep qc3 hB, cell_keep qf0 hB, cell_keep qf1 hB, cell_keep qt0 hB, cell_keep qt1 hB⟩ : Below y7.heap.size y7 _ → _) ?_; exact below_drew _)
  refine regTake (i := 0) (v := ?vr18_0) rfl (by kernel_rfl) (by kernel_rfl) (by kernel_rfl) (fun _ _ _ h => h) (Or.inl ⟨by rfl, ?hyr18_0⟩) (by assumption) ?_
  case hyr18_0 => (intro w hSw; (try dsimp only at hSw); go_simp; (try with_reducible rfl))
  try simp only [Act.put, List.setIfInBounds_toArray, List.set_cons_zero, List.set_cons_succ]
  refine regTake (i := 1) (v := ?vr18_1) rfl (by kernel_rfl) (by kernel_rfl) (by kernel_rfl) (fun _ _ _ h => h) (Or.inl ⟨by rfl, ?hyr18_1⟩) (by assumption) ?_
  case hyr18_1 => (intro w hSw; (try dsimp only at hSw); go_simp; (try with_reducible rfl))
  try simp only [Act.put, List.setIfInBounds_toArray, List.set_cons_zero, List.set_cons_succ]
  refine wpAnyH_ready (rs := [2]) (by kernel_rfl) (by simp) ?_
  refine regCons rfl (fun K hK => ?_)
  go_simp
  refine (toCoer_any c _ _ _ (hA.below (below_drew y7)) hnc).mono ?_
  rintro e d0 ⟨u0, g0, rfl, hu0, hg0, hy0⟩
  have hk0 := below_trans (below_drew y7) hy0
  refine hK.out _ _ ?_ (fun hS1 => ?_)
  · (refine (fun hB => ⟨hB, cell_keep xc0 hB, cell_keep xc1 hB, cell_keep xc2 hB, cell_keep xc3 hB, cell_keep xf0 hB, cell_keep xf1 hB, cell_keep xt0 hB, cell_keep xt1 hB, cell_keep qc0 hB, cell_keep qc1 hB, cell_keep qc2 hB, cell_keep qc3 hB, cell_keep qf0 hB, cell_keep qf1 hB, cell_keep qt0 hB, cell_keep qt1 hB⟩ : Below y7.heap.size y7 _ → _) ?_; exact hk0)
  clear hK K hS0
  try simp only [Act.put, List.setIfInBounds_toArray, List.set_cons_zero, List.set_cons_succ]
  refine wpAnyH_ready (rs := [3]) (by kernel_rfl) (by simp) ?_
  refine regCons rfl (fun K hK => ?_)
  go_simp
  refine (eqCoer_any c c _ _ _ _ _ (hu4.below hk0) hu0).mono ?_
  rw [coEq_refl]
  rintro e s0 ⟨rfl, hy1⟩
  have hk1 := below_trans hk0 hy1
  refine hK.out _ _ ?_ (fun hS2 => ?_)
  · (refine (fun hB => ⟨hB, cell_keep xc0 hB, cell_keep xc1 hB, cell_keep xc2 hB, cell_keep xc3 hB, cell_keep xf0 hB, cell_keep xf1 hB, cell_keep xt0 hB, cell_keep xt1 hB, cell_keep qc0 hB, cell_keep qc1 hB, cell_keep qc2 hB, cell_keep qc3 hB, cell_keep qf0 hB, cell_keep qf1 hB, cell_keep qt0 hB, cell_keep qt1 hB⟩ : Below y7.heap.size y7 _ → _) ?_; exact hk1)
  clear hK K hS1
  try simp only [Act.put, List.setIfInBounds_toArray, List.set_cons_zero, List.set_cons_succ]
  refine regTake (i := 4) (v := ?vr18_4) rfl (by kernel_rfl) (by kernel_rfl) (by kernel_rfl) (fun _ _ _ h => h) (Or.inl ⟨by rfl, ?hyr18_4⟩) (by assumption) ?_
  case hyr18_4 => (intro w hSw; (try dsimp only at hSw); go_simp; (try with_reducible rfl))
  try simp only [Act.put, List.setIfInBounds_toArray, List.set_cons_zero, List.set_cons_succ]
  refine wpAnyH_done (by kernel_rfl) ?_ _
  clear hS2
  replace xc0 := cell_keep xc0 hk1
  replace xc1 := cell_keep xc1 hk1
  replace xc2 := cell_keep xc2 hk1
  replace xc3 := cell_keep xc3 hk1
  replace xf0 := cell_keep xf0 hk1
  replace xf1 := cell_keep xf1 hk1
  replace xt0 := cell_keep xt0 hk1
  replace xt1 := cell_keep xt1 hk1
  replace qc0 := cell_keep qc0 hk1
  replace qc1 := cell_keep qc1 hk1
  replace qc2 := cell_keep qc2 hk1
  replace qc3 := cell_keep qc3 hk1
  replace qf0 := cell_keep qf0 hk1
  replace qf1 := cell_keep qf1 hk1
  replace qt0 := cell_keep qt0 hk1
  replace qt1 := cell_keep qt1 hk1
  replace hA := hA.below hk1
  replace hF := hF.below hk1
  replace hT := hT.below hk1
  replace hu4 := hu4.below hk1
  replace hu5 := hu5.below hk1
  replace hu6 := hu6.below hk1
  replace hz := below_trans hz hk1
  clear hk0 hk1 hu0 hg0 hy0 hy1
  go_wp2_with fail
  refine wp_region_held_drew (S := (fun w' => Below s0.heap.size s0 w' ∧ w'.cell? ⟨w.heap.size, 0, none⟩ = some (.int .i64 k) ∧ w'.cell? ⟨w.heap.size, 1, none⟩ = some (.int .i64 g) ∧ w'.cell? ⟨w.heap.size, 2, none⟩ = some (.int .i64 l) ∧ w'.cell? ⟨w.heap.size, 3, none⟩ = some (.slice a m cap) ∧ w'.cell? ⟨w.heap.size + 1, 0, none⟩ = some (.int .i64 kf) ∧ w'.cell? ⟨w.heap.size + 1, 1, none⟩ = some (.slice af mf capf) ∧ w'.cell? ⟨w.heap.size + 1 + 1, 0, none⟩ = some (.int .i64 kt) ∧ w'.cell? ⟨w.heap.size + 1 + 1, 1, none⟩ = some (.slice at' mt capt) ∧ w'.cell? ⟨y4.heap.size, 0, none⟩ = some (.int .i64 k4) ∧ w'.cell? ⟨y4.heap.size, 1, none⟩ = some (.int .i64 g4) ∧ w'.cell? ⟨y4.heap.size, 2, none⟩ = some (.int .i64 l4) ∧ w'.cell? ⟨y4.heap.size, 3, none⟩ = some (.slice c4 n4 cap4) ∧ w'.cell? ⟨y5.heap.size, 0, none⟩ = some (.int .i64 k5) ∧ w'.cell? ⟨y5.heap.size, 1, none⟩ = some (.slice c5 n5 cap5) ∧ w'.cell? ⟨y6.heap.size, 0, none⟩ = some (.int .i64 k6) ∧ w'.cell? ⟨y6.heap.size, 1, none⟩ = some (.slice c6 n6 cap6))) (by kernel_rfl) ?_ (fun hS0 => ?_)
  · (refine (fun hB => ⟨hB, cell_keep xc0 hB, cell_keep xc1 hB, cell_keep xc2 hB, cell_keep xc3 hB, cell_keep xf0 hB, cell_keep xf1 hB, cell_keep xt0 hB, cell_keep xt1 hB, cell_keep qc0 hB, cell_keep qc1 hB, cell_keep qc2 hB, cell_keep qc3 hB, cell_keep qf0 hB, cell_keep qf1 hB, cell_keep qt0 hB, cell_keep qt1 hB⟩ : Below s0.heap.size s0 _ → _) ?_; exact below_drew _)
  refine regTake (i := 0) (v := ?vr20_0) rfl (by kernel_rfl) (by kernel_rfl) (by kernel_rfl) (fun _ _ _ h => h) (Or.inl ⟨by rfl, ?hyr20_0⟩) (by assumption) ?_
  case hyr20_0 => (intro w hSw; (try dsimp only at hSw); go_simp; (try with_reducible rfl))
  try simp only [Act.put, List.setIfInBounds_toArray, List.set_cons_zero, List.set_cons_succ]
  refine regTake (i := 1) (v := ?vr20_1) rfl (by kernel_rfl) (by kernel_rfl) (by kernel_rfl) (fun _ _ _ h => h) (Or.inl ⟨by rfl, ?hyr20_1⟩) (by assumption) ?_
  case hyr20_1 => (intro w hSw; (try dsimp only at hSw); go_simp; (try with_reducible rfl))
  try simp only [Act.put, List.setIfInBounds_toArray, List.set_cons_zero, List.set_cons_succ]
  refine wpAnyH_ready (rs := [2]) (by kernel_rfl) (by simp) ?_
  refine regCons rfl (fun K hK => ?_)
  go_simp
  refine (toType_any f _ _ _ (hF.below (below_drew s0)) hnf).mono ?_
  rintro e d1 ⟨u0, g0, rfl, hu0, hg0, hy0⟩
  have hk0 := below_trans (below_drew s0) hy0
  refine hK.out _ _ ?_ (fun hS1 => ?_)
  · (refine (fun hB => ⟨hB, cell_keep xc0 hB, cell_keep xc1 hB, cell_keep xc2 hB, cell_keep xc3 hB, cell_keep xf0 hB, cell_keep xf1 hB, cell_keep xt0 hB, cell_keep xt1 hB, cell_keep qc0 hB, cell_keep qc1 hB, cell_keep qc2 hB, cell_keep qc3 hB, cell_keep qf0 hB, cell_keep qf1 hB, cell_keep qt0 hB, cell_keep qt1 hB⟩ : Below s0.heap.size s0 _ → _) ?_; exact hk0)
  clear hK K hS0
  try simp only [Act.put, List.setIfInBounds_toArray, List.set_cons_zero, List.set_cons_succ]
  refine wpAnyH_ready (rs := [3]) (by kernel_rfl) (by simp) ?_
  refine regCons rfl (fun K hK => ?_)
  go_simp
  refine (eqType_any f f _ _ _ _ _ (hu5.below hk0) hu0).mono ?_
  rw [tyEq_refl]
  rintro e s1 ⟨rfl, hy1⟩
  have hk1 := below_trans hk0 hy1
  refine hK.out _ _ ?_ (fun hS2 => ?_)
  · (refine (fun hB => ⟨hB, cell_keep xc0 hB, cell_keep xc1 hB, cell_keep xc2 hB, cell_keep xc3 hB, cell_keep xf0 hB, cell_keep xf1 hB, cell_keep xt0 hB, cell_keep xt1 hB, cell_keep qc0 hB, cell_keep qc1 hB, cell_keep qc2 hB, cell_keep qc3 hB, cell_keep qf0 hB, cell_keep qf1 hB, cell_keep qt0 hB, cell_keep qt1 hB⟩ : Below s0.heap.size s0 _ → _) ?_; exact hk1)
  clear hK K hS1
  try simp only [Act.put, List.setIfInBounds_toArray, List.set_cons_zero, List.set_cons_succ]
  refine regTake (i := 4) (v := ?vr20_4) rfl (by kernel_rfl) (by kernel_rfl) (by kernel_rfl) (fun _ _ _ h => h) (Or.inl ⟨by rfl, ?hyr20_4⟩) (by assumption) ?_
  case hyr20_4 => (intro w hSw; (try dsimp only at hSw); go_simp; (try with_reducible rfl))
  try simp only [Act.put, List.setIfInBounds_toArray, List.set_cons_zero, List.set_cons_succ]
  refine wpAnyH_done (by kernel_rfl) ?_ _
  clear hS2
  replace xc0 := cell_keep xc0 hk1
  replace xc1 := cell_keep xc1 hk1
  replace xc2 := cell_keep xc2 hk1
  replace xc3 := cell_keep xc3 hk1
  replace xf0 := cell_keep xf0 hk1
  replace xf1 := cell_keep xf1 hk1
  replace xt0 := cell_keep xt0 hk1
  replace xt1 := cell_keep xt1 hk1
  replace qc0 := cell_keep qc0 hk1
  replace qc1 := cell_keep qc1 hk1
  replace qc2 := cell_keep qc2 hk1
  replace qc3 := cell_keep qc3 hk1
  replace qf0 := cell_keep qf0 hk1
  replace qf1 := cell_keep qf1 hk1
  replace qt0 := cell_keep qt0 hk1
  replace qt1 := cell_keep qt1 hk1
  replace hA := hA.below hk1
  replace hF := hF.below hk1
  replace hT := hT.below hk1
  replace hu4 := hu4.below hk1
  replace hu5 := hu5.below hk1
  replace hu6 := hu6.below hk1
  replace hz := below_trans hz hk1
  clear hk0 hk1 hu0 hg0 hy0 hy1
  go_wp2_with fail
  refine wp_region_held_drew (S := (fun w' => Below s1.heap.size s1 w' ∧ w'.cell? ⟨w.heap.size, 0, none⟩ = some (.int .i64 k) ∧ w'.cell? ⟨w.heap.size, 1, none⟩ = some (.int .i64 g) ∧ w'.cell? ⟨w.heap.size, 2, none⟩ = some (.int .i64 l) ∧ w'.cell? ⟨w.heap.size, 3, none⟩ = some (.slice a m cap) ∧ w'.cell? ⟨w.heap.size + 1, 0, none⟩ = some (.int .i64 kf) ∧ w'.cell? ⟨w.heap.size + 1, 1, none⟩ = some (.slice af mf capf) ∧ w'.cell? ⟨w.heap.size + 1 + 1, 0, none⟩ = some (.int .i64 kt) ∧ w'.cell? ⟨w.heap.size + 1 + 1, 1, none⟩ = some (.slice at' mt capt) ∧ w'.cell? ⟨y4.heap.size, 0, none⟩ = some (.int .i64 k4) ∧ w'.cell? ⟨y4.heap.size, 1, none⟩ = some (.int .i64 g4) ∧ w'.cell? ⟨y4.heap.size, 2, none⟩ = some (.int .i64 l4) ∧ w'.cell? ⟨y4.heap.size, 3, none⟩ = some (.slice c4 n4 cap4) ∧ w'.cell? ⟨y5.heap.size, 0, none⟩ = some (.int .i64 k5) ∧ w'.cell? ⟨y5.heap.size, 1, none⟩ = some (.slice c5 n5 cap5) ∧ w'.cell? ⟨y6.heap.size, 0, none⟩ = some (.int .i64 k6) ∧ w'.cell? ⟨y6.heap.size, 1, none⟩ = some (.slice c6 n6 cap6))) (by kernel_rfl) ?_ (fun hS0 => ?_)
  · (refine (fun hB => ⟨hB, cell_keep xc0 hB, cell_keep xc1 hB, cell_keep xc2 hB, cell_keep xc3 hB, cell_keep xf0 hB, cell_keep xf1 hB, cell_keep xt0 hB, cell_keep xt1 hB, cell_keep qc0 hB, cell_keep qc1 hB, cell_keep qc2 hB, cell_keep qc3 hB, cell_keep qf0 hB, cell_keep qf1 hB, cell_keep qt0 hB, cell_keep qt1 hB⟩ : Below s1.heap.size s1 _ → _) ?_; exact below_drew _)
  refine regTake (i := 0) (v := ?vr22_0) rfl (by kernel_rfl) (by kernel_rfl) (by kernel_rfl) (fun _ _ _ h => h) (Or.inl ⟨by rfl, ?hyr22_0⟩) (by assumption) ?_
  case hyr22_0 => (intro w hSw; (try dsimp only at hSw); go_simp; (try with_reducible rfl))
  try simp only [Act.put, List.setIfInBounds_toArray, List.set_cons_zero, List.set_cons_succ]
  refine regTake (i := 1) (v := ?vr22_1) rfl (by kernel_rfl) (by kernel_rfl) (by kernel_rfl) (fun _ _ _ h => h) (Or.inl ⟨by rfl, ?hyr22_1⟩) (by assumption) ?_
  case hyr22_1 => (intro w hSw; (try dsimp only at hSw); go_simp; (try with_reducible rfl))
  try simp only [Act.put, List.setIfInBounds_toArray, List.set_cons_zero, List.set_cons_succ]
  refine wpAnyH_ready (rs := [2]) (by kernel_rfl) (by simp) ?_
  refine regCons rfl (fun K hK => ?_)
  go_simp
  refine (toType_any t _ _ _ (hT.below (below_drew s1)) hnt).mono ?_
  rintro e d2 ⟨u0, g0, rfl, hu0, hg0, hy0⟩
  have hk0 := below_trans (below_drew s1) hy0
  refine hK.out _ _ ?_ (fun hS1 => ?_)
  · (refine (fun hB => ⟨hB, cell_keep xc0 hB, cell_keep xc1 hB, cell_keep xc2 hB, cell_keep xc3 hB, cell_keep xf0 hB, cell_keep xf1 hB, cell_keep xt0 hB, cell_keep xt1 hB, cell_keep qc0 hB, cell_keep qc1 hB, cell_keep qc2 hB, cell_keep qc3 hB, cell_keep qf0 hB, cell_keep qf1 hB, cell_keep qt0 hB, cell_keep qt1 hB⟩ : Below s1.heap.size s1 _ → _) ?_; exact hk0)
  clear hK K hS0
  try simp only [Act.put, List.setIfInBounds_toArray, List.set_cons_zero, List.set_cons_succ]
  refine wpAnyH_ready (rs := [3]) (by kernel_rfl) (by simp) ?_
  refine regCons rfl (fun K hK => ?_)
  go_simp
  refine (eqType_any t t _ _ _ _ _ (hu6.below hk0) hu0).mono ?_
  rw [tyEq_refl]
  rintro e s2 ⟨rfl, hy1⟩
  have hk1 := below_trans hk0 hy1
  refine hK.out _ _ ?_ (fun hS2 => ?_)
  · (refine (fun hB => ⟨hB, cell_keep xc0 hB, cell_keep xc1 hB, cell_keep xc2 hB, cell_keep xc3 hB, cell_keep xf0 hB, cell_keep xf1 hB, cell_keep xt0 hB, cell_keep xt1 hB, cell_keep qc0 hB, cell_keep qc1 hB, cell_keep qc2 hB, cell_keep qc3 hB, cell_keep qf0 hB, cell_keep qf1 hB, cell_keep qt0 hB, cell_keep qt1 hB⟩ : Below s1.heap.size s1 _ → _) ?_; exact hk1)
  clear hK K hS1
  try simp only [Act.put, List.setIfInBounds_toArray, List.set_cons_zero, List.set_cons_succ]
  refine regTake (i := 4) (v := ?vr22_4) rfl (by kernel_rfl) (by kernel_rfl) (by kernel_rfl) (fun _ _ _ h => h) (Or.inl ⟨by rfl, ?hyr22_4⟩) (by assumption) ?_
  case hyr22_4 => (intro w hSw; (try dsimp only at hSw); go_simp; (try with_reducible rfl))
  try simp only [Act.put, List.setIfInBounds_toArray, List.set_cons_zero, List.set_cons_succ]
  refine wpAnyH_done (by kernel_rfl) ?_ _
  clear hS2
  replace xc0 := cell_keep xc0 hk1
  replace xc1 := cell_keep xc1 hk1
  replace xc2 := cell_keep xc2 hk1
  replace xc3 := cell_keep xc3 hk1
  replace xf0 := cell_keep xf0 hk1
  replace xf1 := cell_keep xf1 hk1
  replace xt0 := cell_keep xt0 hk1
  replace xt1 := cell_keep xt1 hk1
  replace qc0 := cell_keep qc0 hk1
  replace qc1 := cell_keep qc1 hk1
  replace qc2 := cell_keep qc2 hk1
  replace qc3 := cell_keep qc3 hk1
  replace qf0 := cell_keep qf0 hk1
  replace qf1 := cell_keep qf1 hk1
  replace qt0 := cell_keep qt0 hk1
  replace qt1 := cell_keep qt1 hk1
  replace hA := hA.below hk1
  replace hF := hF.below hk1
  replace hT := hT.below hk1
  replace hu4 := hu4.below hk1
  replace hu5 := hu5.below hk1
  replace hu6 := hu6.below hk1
  replace hz := below_trans hz hk1
  clear hk0 hk1 hu0 hg0 hy0 hy1
  go_wp2_with fail
  go_ret
  exact ⟨rfl, hz⟩
end Go.Proofs.Ytephhhnoobkbhaa
