/- The law FnGroundOf: it returns true and writes nothing that was there. -/
import Derived.Test.YtelbpgdlcnnabaaDvG
import Derived.Test.YtelbpgdlcnnabaaReg
import Derived.Test.YtelbpgdlcnnabaaRaw
import Derived.Test.YtelbpgdlcnnabaaGround2
import Derived.Test.YtelbpgdlcnnabaaGkP
import Derived.Test.YtelbpgdlcnnabaaRel
import Derived.Deep.RegionHeld3
namespace Go.Proofs.Ytelbpgdlcnnabaa
open Go.RowKit

/-- Boxes that have just been laid. -/
theorem lay1 (w : World) (o1 : Obj) : (w.alloc o1).heap[w.heap.size]? = some o1 := alloc_new _ _
theorem lay2 (w : World) (o1 o2 : Obj) : ((w.alloc o1).alloc o2).heap[w.heap.size]? = some o1 ∧ ((w.alloc o1).alloc o2).heap[w.heap.size + 1]? = some o2 := by
  have h2 := alloc_new (w.alloc o1) o2
  have hs : (w.alloc o1).heap.size = w.heap.size + 1 := by simp
  rw [hs] at h2
  exact ⟨(Below.heap_alloc _ _ _ (by simp)).trans (alloc_new _ _), h2⟩
theorem lay3 (w : World) (o1 o2 o3 : Obj) : (((w.alloc o1).alloc o2).alloc o3).heap[w.heap.size]? = some o1 ∧ (((w.alloc o1).alloc o2).alloc o3).heap[w.heap.size + 1]? = some o2 ∧ (((w.alloc o1).alloc o2).alloc o3).heap[w.heap.size + 1 + 1]? = some o3 := by
  obtain ⟨a, b⟩ := lay2 w o1 o2
  have h3 := alloc_new ((w.alloc o1).alloc o2) o3
  have hs : ((w.alloc o1).alloc o2).heap.size = w.heap.size + 1 + 1 := by simp
  rw [hs] at h3
  exact ⟨(Below.heap_alloc _ _ _ (by simp; omega)).trans a, (Below.heap_alloc _ _ _ (by simp)).trans b, h3⟩


set_option linter.unusedSimpArgs false in
set_option linter.unusedVariables false in
set_option maxRecDepth 100000 in
set_option maxHeartbeats 16000000 in
theorem lawDGnd (a00 : Option Addr) (n00 cap00 : Nat) (a01 : Option Addr) (n01 cap01 : Nat) (w : World) (hB0 : BytA w a00 n00) (hn0 : n00 ≤ cap00) (hm0 : cap00 ≤ maxLen) (hB1 : BytA w a01 n01) (hn1 : n01 ≤ cap01) (hm1 : cap01 ≤ maxLen) :
    Calls Try.prog 6 #[.slice a00 n00 cap00, .slice a01 n01 cap01] w fun e w' => e = .returned (.bool true) ∧ Below w.heap.size w w' := by
  by_cases hl0 : (n00 : Int) > 1048576
  · clear hB0 hB1
    go_enter Try.func6, Try.ntmps6
    go_wp2_with fail
    go_ret
    exact ⟨rfl, Below.refl _ _⟩
  by_cases hl1 : (n01 : Int) > 1048576
  · clear hB0 hB1
    go_enter Try.func6, Try.ntmps6
    go_wp2_with fail
    go_ret
    exact ⟨rfl, Below.refl _ _⟩
  have HBY0 := hid hB0
  have HNN0 := hid hn0
  have HMM0 := hid hm0
  have HBY1 := hid hB1
  have HNN1 := hid hn1
  have HMM1 := hid hm1
  clear hB0 hn0 hm0 hB1 hn1 hm1
  go_enter Try.func6, Try.ntmps6
  go_wp2_with fail
  refine (drawGround_any a00 n00 cap00 _ (HBY0.out.below (Below.refl _ _)) HNN0.out HMM0.out).mono ?_
  rintro e z4 ⟨t4a, v4a, f4a, rfl, hs4, ht4a, hg4a, hz4⟩
  obtain ⟨k4a, n4a, a4a, c4a, rfl⟩ := ht4a.agg
  have hba5 : Below z4.heap.size z4 (z4.alloc (Obj.cells #[.int .i64 k4a, .slice a4a n4a c4a] 25)) := ((Below.refl _ _).alloc (Nat.le_refl _) _)
  have hbb5 := below_trans hz4 hba5
  have hbc5 := hbb5
  have HBL := hid hbc5
  have hl5 := lay1 z4 (Obj.cells #[.int .i64 k4a, .slice a4a n4a c4a] 25)
  have HA4a := hid (ht4a.below hba5)
  have HR4a := hid (show ∀ x ∈ f4a, Raw (z4.alloc (Obj.cells #[.int .i64 k4a, .slice a4a n4a c4a] 25)) x from fun x hx => Raw.below ⟨ht4a.laid x hx, (hg4a x hx).2⟩ hba5)
  have HC4a := hid (show ((t4a) : Ty).cnt ≤ 100 from hs4)
  have xa1_ : ((z4.alloc (Obj.cells #[.int .i64 k4a, .slice a4a n4a c4a] 25))).cell? ⟨z4.heap.size, 0, none⟩ = some (.int .i64 k4a) := by rw [cell_of_block (hl5)]; rfl
  have xb1_ : ((z4.alloc (Obj.cells #[.int .i64 k4a, .slice a4a n4a c4a] 25))).cell? ⟨z4.heap.size, 1, none⟩ = some (.slice a4a n4a c4a) := by rw [cell_of_block (hl5)]; rfl
  have h05 := Below.refl ((z4.alloc (Obj.cells #[.int .i64 k4a, .slice a4a n4a c4a] 25))).heap.size (z4.alloc (Obj.cells #[.int .i64 k4a, .slice a4a n4a c4a] 25))
  clear ht4a
  clear hba5 hbb5 hbc5 hl5 hz4
  rcases Bool.eq_false_or_eq_true (gndOk t4a) with hq7 | hq7
  · have EQ7 := hid hq7
    clear hq7
    go_wp2_with fail
    have hc9 := implGroundOf t4a _ _ _ (HA4a.out.below h05) (by have := HC4a.out; omega)
    rw [EQ7.out] at hc9
    refine hc9.mono ?_
    rintro e z10 ⟨v10, f10, rfl, ht10, hf10, hz10⟩
    obtain ⟨k10, n10, a10, c10, rfl⟩ := ht10.agg
    clear hc9
    have hba11 : Below z10.heap.size z10 (z10.alloc (Obj.cells #[.int .i64 k10, .slice a10 n10 c10] 25)) := ((Below.refl _ _).alloc (Nat.le_refl _) _)
    have hbb11 := below_trans hz10 hba11
    have hbc11 := below_trans h05 hbb11
    replace HA4a := hid (HA4a.out.below hbc11)
    replace HR4a := hid (fun x hx => (HR4a.out x hx).below hbc11)
    replace HBL := hid (below_trans HBL.out hbc11)
    replace xa1_ := cell_keep xa1_ hbb11
    replace xb1_ := cell_keep xb1_ hbb11
    have hl11 := lay1 z10 (Obj.cells #[.int .i64 k10, .slice a10 n10 c10] 25)
    have HA10 := hid (ht10.below hba11)
    have HR10 := hid (show ∀ x ∈ f10, Raw (z10.alloc (Obj.cells #[.int .i64 k10, .slice a10 n10 c10] 25)) x from fun x hx => Raw.below (Fresh.raw ht10 hf10 x hx) hba11)
    have HC10 := hid (show ((gndOf t4a) : Ty).cnt ≤ 100 from (Nat.le_trans (gndOf_cnt t4a) HC4a.out))
    have xa2_ : ((z10.alloc (Obj.cells #[.int .i64 k10, .slice a10 n10 c10] 25))).cell? ⟨z10.heap.size, 0, none⟩ = some (.int .i64 k10) := by rw [cell_of_block (hl11)]; rfl
    have xb2_ : ((z10.alloc (Obj.cells #[.int .i64 k10, .slice a10 n10 c10] 25))).cell? ⟨z10.heap.size, 1, none⟩ = some (.slice a10 n10 c10) := by rw [cell_of_block (hl11)]; rfl
    have h011 := Below.refl ((z10.alloc (Obj.cells #[.int .i64 k10, .slice a10 n10 c10] 25))).heap.size (z10.alloc (Obj.cells #[.int .i64 k10, .slice a10 n10 c10] 25))
    clear ht10
    clear hba11 hbb11 hbc11 hl11 hz10
    go_wp2_with fail
    have hc13 := specGroundOf t4a _ _ _ (HA4a.out.below h011) (by have := HC4a.out; omega)
    rw [EQ7.out] at hc13
    refine hc13.mono ?_
    rintro e z14 ⟨v14, f14, rfl, ht14, hf14, hz14⟩
    obtain ⟨k14, n14, a14, c14, rfl⟩ := ht14.agg
    clear hc13
    have hba15 : Below z14.heap.size z14 (z14.alloc (Obj.cells #[.int .i64 k14, .slice a14 n14 c14] 25)) := ((Below.refl _ _).alloc (Nat.le_refl _) _)
    have hbb15 := below_trans hz14 hba15
    have hbc15 := below_trans h011 hbb15
    replace HA4a := hid (HA4a.out.below hbc15)
    replace HR4a := hid (fun x hx => (HR4a.out x hx).below hbc15)
    replace HA10 := hid (HA10.out.below hbc15)
    replace HR10 := hid (fun x hx => (HR10.out x hx).below hbc15)
    replace HBL := hid (below_trans HBL.out hbc15)
    replace xa1_ := cell_keep xa1_ hbb15
    replace xb1_ := cell_keep xb1_ hbb15
    replace xa2_ := cell_keep xa2_ hbb15
    replace xb2_ := cell_keep xb2_ hbb15
    have hl15 := lay1 z14 (Obj.cells #[.int .i64 k14, .slice a14 n14 c14] 25)
    have HA14 := hid (ht14.below hba15)
    have HR14 := hid (show ∀ x ∈ f14, Raw (z14.alloc (Obj.cells #[.int .i64 k14, .slice a14 n14 c14] 25)) x from fun x hx => Raw.below (Fresh.raw ht14 hf14 x hx) hba15)
    have HC14 := hid (show ((gndOf t4a) : Ty).cnt ≤ 100 from (Nat.le_trans (gndOf_cnt t4a) HC4a.out))
    have xa3_ : ((z14.alloc (Obj.cells #[.int .i64 k14, .slice a14 n14 c14] 25))).cell? ⟨z14.heap.size, 0, none⟩ = some (.int .i64 k14) := by rw [cell_of_block (hl15)]; rfl
    have xb3_ : ((z14.alloc (Obj.cells #[.int .i64 k14, .slice a14 n14 c14] 25))).cell? ⟨z14.heap.size, 1, none⟩ = some (.slice a14 n14 c14) := by rw [cell_of_block (hl15)]; rfl
    have h015 := Below.refl ((z14.alloc (Obj.cells #[.int .i64 k14, .slice a14 n14 c14] 25))).heap.size (z14.alloc (Obj.cells #[.int .i64 k14, .slice a14 n14 c14] 25))
    clear ht14
    clear hba15 hbb15 hbc15 hl15 hz14
    have EQ17 := hid (show tyEq (gndOf t4a) (gndOf t4a) = true from tyEq_refl (gndOf t4a))
    go_wp2_with fail
    have hc18 := implTypeSame (gndOf t4a) (gndOf t4a) _ _ _ _ _ (by have := HC10.out; omega) (HA10.out.below h015) (HA14.out.below h015) (fun x hx => (HR10.out x hx).below h015) (fun x hx => (HR14.out x hx).below h015)
    rw [EQ17.out] at hc18
    refine hc18.mono ?_
    rintro e z19 ⟨rfl, hz19⟩
    have hq19 := below_trans h015 hz19
    replace xa1_ := cell_keep xa1_ hz19
    replace xb1_ := cell_keep xb1_ hz19
    replace xa2_ := cell_keep xa2_ hz19
    replace xb2_ := cell_keep xb2_ hz19
    replace xa3_ := cell_keep xa3_ hz19
    replace xb3_ := cell_keep xb3_ hz19
    clear hc18 hz19
    go_wp2_with fail
    refine (drawGround_any a01 n01 cap01 _ (HBY1.out.below (below_trans HBL.out hq19)) HNN1.out HMM1.out).mono ?_
    rintro e z21 ⟨t21a, v21a, f21a, rfl, hs21, ht21a, hg21a, hz21⟩
    obtain ⟨k21a, n21a, a21a, c21a, rfl⟩ := ht21a.agg
    have hba22 : Below z21.heap.size z21 (z21.alloc (Obj.cells #[.int .i64 k21a, .slice a21a n21a c21a] 25)) := ((Below.refl _ _).alloc (Nat.le_refl _) _)
    have hbb22 := below_trans hz21 hba22
    have hbc22 := below_trans hq19 hbb22
    replace HA4a := hid (HA4a.out.below hbc22)
    replace HR4a := hid (fun x hx => (HR4a.out x hx).below hbc22)
    replace HA10 := hid (HA10.out.below hbc22)
    replace HR10 := hid (fun x hx => (HR10.out x hx).below hbc22)
    replace HA14 := hid (HA14.out.below hbc22)
    replace HR14 := hid (fun x hx => (HR14.out x hx).below hbc22)
    replace HBL := hid (below_trans HBL.out hbc22)
    replace xa1_ := cell_keep xa1_ hbb22
    replace xb1_ := cell_keep xb1_ hbb22
    replace xa2_ := cell_keep xa2_ hbb22
    replace xb2_ := cell_keep xb2_ hbb22
    replace xa3_ := cell_keep xa3_ hbb22
    replace xb3_ := cell_keep xb3_ hbb22
    have hl22 := lay1 z21 (Obj.cells #[.int .i64 k21a, .slice a21a n21a c21a] 25)
    have HA21a := hid (ht21a.below hba22)
    have HR21a := hid (show ∀ x ∈ f21a, Raw (z21.alloc (Obj.cells #[.int .i64 k21a, .slice a21a n21a c21a] 25)) x from fun x hx => Raw.below ⟨ht21a.laid x hx, (hg21a x hx).2⟩ hba22)
    have HC21a := hid (show ((t21a) : Ty).cnt ≤ 100 from hs21)
    have xa4_ : ((z21.alloc (Obj.cells #[.int .i64 k21a, .slice a21a n21a c21a] 25))).cell? ⟨z21.heap.size, 0, none⟩ = some (.int .i64 k21a) := by rw [cell_of_block (hl22)]; rfl
    have xb4_ : ((z21.alloc (Obj.cells #[.int .i64 k21a, .slice a21a n21a c21a] 25))).cell? ⟨z21.heap.size, 1, none⟩ = some (.slice a21a n21a c21a) := by rw [cell_of_block (hl22)]; rfl
    have h022 := Below.refl ((z21.alloc (Obj.cells #[.int .i64 k21a, .slice a21a n21a c21a] 25))).heap.size (z21.alloc (Obj.cells #[.int .i64 k21a, .slice a21a n21a c21a] 25))
    clear ht21a
    clear hba22 hbb22 hbc22 hl22 hz21
    rcases Bool.eq_false_or_eq_true (gndOk t21a) with hq24 | hq24
    · have EQ24 := hid hq24
      clear hq24
      go_wp2_with fail
      have hc26 := implGroundOf t21a _ _ _ (HA21a.out.below h022) (by have := HC21a.out; omega)
      rw [EQ24.out] at hc26
      refine hc26.mono ?_
      rintro e z27 ⟨v27, f27, rfl, ht27, hf27, hz27⟩
      obtain ⟨k27, n27, a27, c27, rfl⟩ := ht27.agg
      clear hc26
      have hba28 : Below z27.heap.size z27 (z27.alloc (Obj.cells #[.int .i64 k27, .slice a27 n27 c27] 25)) := ((Below.refl _ _).alloc (Nat.le_refl _) _)
      have hbb28 := below_trans hz27 hba28
      have hbc28 := below_trans h022 hbb28
      replace HA4a := hid (HA4a.out.below hbc28)
      replace HR4a := hid (fun x hx => (HR4a.out x hx).below hbc28)
      replace HA10 := hid (HA10.out.below hbc28)
      replace HR10 := hid (fun x hx => (HR10.out x hx).below hbc28)
      replace HA14 := hid (HA14.out.below hbc28)
      replace HR14 := hid (fun x hx => (HR14.out x hx).below hbc28)
      replace HA21a := hid (HA21a.out.below hbc28)
      replace HR21a := hid (fun x hx => (HR21a.out x hx).below hbc28)
      replace HBL := hid (below_trans HBL.out hbc28)
      replace xa1_ := cell_keep xa1_ hbb28
      replace xb1_ := cell_keep xb1_ hbb28
      replace xa2_ := cell_keep xa2_ hbb28
      replace xb2_ := cell_keep xb2_ hbb28
      replace xa3_ := cell_keep xa3_ hbb28
      replace xb3_ := cell_keep xb3_ hbb28
      replace xa4_ := cell_keep xa4_ hbb28
      replace xb4_ := cell_keep xb4_ hbb28
      have hl28 := lay1 z27 (Obj.cells #[.int .i64 k27, .slice a27 n27 c27] 25)
      have HA27 := hid (ht27.below hba28)
      have HR27 := hid (show ∀ x ∈ f27, Raw (z27.alloc (Obj.cells #[.int .i64 k27, .slice a27 n27 c27] 25)) x from fun x hx => Raw.below (Fresh.raw ht27 hf27 x hx) hba28)
      have HC27 := hid (show ((gndOf t21a) : Ty).cnt ≤ 100 from (Nat.le_trans (gndOf_cnt t21a) HC21a.out))
      have xa5_ : ((z27.alloc (Obj.cells #[.int .i64 k27, .slice a27 n27 c27] 25))).cell? ⟨z27.heap.size, 0, none⟩ = some (.int .i64 k27) := by rw [cell_of_block (hl28)]; rfl
      have xb5_ : ((z27.alloc (Obj.cells #[.int .i64 k27, .slice a27 n27 c27] 25))).cell? ⟨z27.heap.size, 1, none⟩ = some (.slice a27 n27 c27) := by rw [cell_of_block (hl28)]; rfl
      have h028 := Below.refl ((z27.alloc (Obj.cells #[.int .i64 k27, .slice a27 n27 c27] 25))).heap.size (z27.alloc (Obj.cells #[.int .i64 k27, .slice a27 n27 c27] 25))
      clear ht27
      clear hba28 hbb28 hbc28 hl28 hz27
      have EQ30 := hid (show gndOk (gndOf t4a) = true from (gnd_pure t4a EQ7.out).2.1)
      go_wp2_with fail
      have hc31 := implGroundOf (gndOf t4a) _ _ _ (HA10.out.below h028) (by have := HC10.out; omega)
      rw [EQ30.out] at hc31
      refine hc31.mono ?_
      rintro e z32 ⟨v32, f32, rfl, ht32, hf32, hz32⟩
      obtain ⟨k32, n32, a32, c32, rfl⟩ := ht32.agg
      clear hc31
      have hba33 : Below z32.heap.size z32 (z32.alloc (Obj.cells #[.int .i64 k32, .slice a32 n32 c32] 25)) := ((Below.refl _ _).alloc (Nat.le_refl _) _)
      have hbb33 := below_trans hz32 hba33
      have hbc33 := below_trans h028 hbb33
      replace HA4a := hid (HA4a.out.below hbc33)
      replace HR4a := hid (fun x hx => (HR4a.out x hx).below hbc33)
      replace HA10 := hid (HA10.out.below hbc33)
      replace HR10 := hid (fun x hx => (HR10.out x hx).below hbc33)
      replace HA14 := hid (HA14.out.below hbc33)
      replace HR14 := hid (fun x hx => (HR14.out x hx).below hbc33)
      replace HA21a := hid (HA21a.out.below hbc33)
      replace HR21a := hid (fun x hx => (HR21a.out x hx).below hbc33)
      replace HA27 := hid (HA27.out.below hbc33)
      replace HR27 := hid (fun x hx => (HR27.out x hx).below hbc33)
      replace HBL := hid (below_trans HBL.out hbc33)
      replace xa1_ := cell_keep xa1_ hbb33
      replace xb1_ := cell_keep xb1_ hbb33
      replace xa2_ := cell_keep xa2_ hbb33
      replace xb2_ := cell_keep xb2_ hbb33
      replace xa3_ := cell_keep xa3_ hbb33
      replace xb3_ := cell_keep xb3_ hbb33
      replace xa4_ := cell_keep xa4_ hbb33
      replace xb4_ := cell_keep xb4_ hbb33
      replace xa5_ := cell_keep xa5_ hbb33
      replace xb5_ := cell_keep xb5_ hbb33
      have hl33 := lay1 z32 (Obj.cells #[.int .i64 k32, .slice a32 n32 c32] 25)
      have HA32 := hid (ht32.below hba33)
      have HR32 := hid (show ∀ x ∈ f32, Raw (z32.alloc (Obj.cells #[.int .i64 k32, .slice a32 n32 c32] 25)) x from fun x hx => Raw.below (Fresh.raw ht32 hf32 x hx) hba33)
      have HC32 := hid (show ((gndOf (gndOf t4a)) : Ty).cnt ≤ 100 from (Nat.le_trans (gndOf_cnt (gndOf t4a)) HC10.out))
      have xa6_ : ((z32.alloc (Obj.cells #[.int .i64 k32, .slice a32 n32 c32] 25))).cell? ⟨z32.heap.size, 0, none⟩ = some (.int .i64 k32) := by rw [cell_of_block (hl33)]; rfl
      have xb6_ : ((z32.alloc (Obj.cells #[.int .i64 k32, .slice a32 n32 c32] 25))).cell? ⟨z32.heap.size, 1, none⟩ = some (.slice a32 n32 c32) := by rw [cell_of_block (hl33)]; rfl
      have h033 := Below.refl ((z32.alloc (Obj.cells #[.int .i64 k32, .slice a32 n32 c32] 25))).heap.size (z32.alloc (Obj.cells #[.int .i64 k32, .slice a32 n32 c32] 25))
      clear ht32
      clear hba33 hbb33 hbc33 hl33 hz32
      rcases Bool.eq_false_or_eq_true (consOf t4a (gndOf t21a)) with hq41 | hq41
      · have EQ41 := hid hq41
        clear hq41
        have EQ43 := hid (show precOf t4a (gndOf t4a) = true from (gnd_pure t4a EQ7.out).1)
        have EQ46 := hid (show tyEq (gndOf (gndOf t4a)) (gndOf t4a) = true from (by rw [(gnd_pure t4a EQ7.out).2.2]; exact tyEq_refl _))
        have EQ51 := hid (show tyEq (gndOf t4a) (gndOf t21a) = true from (by rw [← gnd_cons t4a t21a EQ7.out EQ24.out]; exact EQ41.out))
        go_wp2_with fail
        refine wp_region_held_drew (S := (fun w' => Below ((z32.alloc (Obj.cells #[.int .i64 k32, .slice a32 n32 c32] 25))).heap.size ((z32.alloc (Obj.cells #[.int .i64 k32, .slice a32 n32 c32] 25))) w' ∧ w'.cell? ⟨z4.heap.size, 0, none⟩ = some (.int .i64 k4a) ∧ w'.cell? ⟨z4.heap.size, 1, none⟩ = some (.slice a4a n4a c4a) ∧ w'.cell? ⟨z10.heap.size, 0, none⟩ = some (.int .i64 k10) ∧ w'.cell? ⟨z10.heap.size, 1, none⟩ = some (.slice a10 n10 c10) ∧ w'.cell? ⟨z14.heap.size, 0, none⟩ = some (.int .i64 k14) ∧ w'.cell? ⟨z14.heap.size, 1, none⟩ = some (.slice a14 n14 c14) ∧ w'.cell? ⟨z21.heap.size, 0, none⟩ = some (.int .i64 k21a) ∧ w'.cell? ⟨z21.heap.size, 1, none⟩ = some (.slice a21a n21a c21a) ∧ w'.cell? ⟨z27.heap.size, 0, none⟩ = some (.int .i64 k27) ∧ w'.cell? ⟨z27.heap.size, 1, none⟩ = some (.slice a27 n27 c27) ∧ w'.cell? ⟨z32.heap.size, 0, none⟩ = some (.int .i64 k32) ∧ w'.cell? ⟨z32.heap.size, 1, none⟩ = some (.slice a32 n32 c32))) (by kernel_rfl) ?_ (fun hS0 => ?_)
        · (refine (fun hB => ⟨hB, cell_keep xa1_ hB, cell_keep xb1_ hB, cell_keep xa2_ hB, cell_keep xb2_ hB, cell_keep xa3_ hB, cell_keep xb3_ hB, cell_keep xa4_ hB, cell_keep xb4_ hB, cell_keep xa5_ hB, cell_keep xb5_ hB, cell_keep xa6_ hB, cell_keep xb6_ hB⟩ : Below ((z32.alloc (Obj.cells #[.int .i64 k32, .slice a32 n32 c32] 25))).heap.size ((z32.alloc (Obj.cells #[.int .i64 k32, .slice a32 n32 c32] 25))) _ → _) ?_; exact below_drew _)
        refine regTake (i := 0) (v := ?vg42_0) rfl (by kernel_rfl) (by kernel_rfl) (by kernel_rfl) (fun _ _ _ h => h) (Or.inl ⟨by rfl, ?hyg42_0⟩) (by assumption) ?_
        case hyg42_0 => (intro w hSw; (try dsimp only at hSw); go_simp; (try with_reducible rfl))
        try simp only [Act.put, List.setIfInBounds_toArray, List.set_cons_zero, List.set_cons_succ]
        refine regTake (i := 1) (v := ?vg42_1) rfl (by kernel_rfl) (by kernel_rfl) (by kernel_rfl) (fun _ _ _ h => h) (Or.inl ⟨by rfl, ?hyg42_1⟩) (by assumption) ?_
        case hyg42_1 => (intro w hSw; (try dsimp only at hSw); go_simp; (try with_reducible rfl))
        try simp only [Act.put, List.setIfInBounds_toArray, List.set_cons_zero, List.set_cons_succ]
        refine wpAnyH_ready (rs := [2]) (by kernel_rfl) (by simp) ?_
        refine regCons rfl (fun K hK => ?_)
        go_simp
        have hc44 := implPrecise t4a (gndOf t4a) _ _ _ _ _ (HA4a.out.below (below_trans h033 (below_drew ((z32.alloc (Obj.cells #[.int .i64 k32, .slice a32 n32 c32] 25)))))) (HA10.out.below (below_trans h033 (below_drew ((z32.alloc (Obj.cells #[.int .i64 k32, .slice a32 n32 c32] 25))))))
        rw [EQ43.out] at hc44
        refine hc44.mono ?_
        rintro e yg42_0 ⟨rfl, hyg42_0⟩
        have hkg42_0 := below_trans (below_drew ((z32.alloc (Obj.cells #[.int .i64 k32, .slice a32 n32 c32] 25)))) hyg42_0
        clear hc44
        refine hK.out _ _ ?_ (fun hS1 => ?_)
        · (refine (fun hB => ⟨hB, cell_keep xa1_ hB, cell_keep xb1_ hB, cell_keep xa2_ hB, cell_keep xb2_ hB, cell_keep xa3_ hB, cell_keep xb3_ hB, cell_keep xa4_ hB, cell_keep xb4_ hB, cell_keep xa5_ hB, cell_keep xb5_ hB, cell_keep xa6_ hB, cell_keep xb6_ hB⟩ : Below ((z32.alloc (Obj.cells #[.int .i64 k32, .slice a32 n32 c32] 25))).heap.size ((z32.alloc (Obj.cells #[.int .i64 k32, .slice a32 n32 c32] 25))) _ → _) ?_; exact hkg42_0)
        clear hK K hS0
        try simp only [Act.put, List.setIfInBounds_toArray, List.set_cons_zero, List.set_cons_succ]
        refine regTake (i := 3) (v := ?vg42_3) rfl (by kernel_rfl) (by kernel_rfl) (by kernel_rfl) (fun _ _ _ h => h) (Or.inl ⟨by rfl, ?hyg42_3⟩) (by assumption) ?_
        case hyg42_3 => (intro w hSw; (try dsimp only at hSw); go_simp; (try with_reducible rfl))
        try simp only [Act.put, List.setIfInBounds_toArray, List.set_cons_zero, List.set_cons_succ]
        refine regTake (i := 4) (v := ?vg42_4) rfl (by kernel_rfl) (by kernel_rfl) (by kernel_rfl) (fun _ _ _ h => h) (Or.inl ⟨by rfl, ?hyg42_4⟩) (by assumption) ?_
        case hyg42_4 => (intro w hSw; (try dsimp only at hSw); go_simp; (try with_reducible rfl))
        try simp only [Act.put, List.setIfInBounds_toArray, List.set_cons_zero, List.set_cons_succ]
        refine regTake (i := 5) (v := .bool true) rfl (by kernel_rfl) (by kernel_rfl) (by kernel_rfl) (fun _ _ _ h => h) (Or.inl ⟨by rfl, ?hyg42_5⟩) (by assumption) ?_
        case hyg42_5 => (intro w hSw; (try dsimp only at hSw); go_simp; (try with_reducible rfl))
        try simp only [Act.put, List.setIfInBounds_toArray, List.set_cons_zero, List.set_cons_succ]
        refine regTake (i := 6) (v := ?vg42_6) rfl (by kernel_rfl) (by kernel_rfl) (by kernel_rfl) (fun _ _ _ h => h) (Or.inl ⟨by rfl, ?hyg42_6⟩) (by assumption) ?_
        case hyg42_6 => (intro w hSw; (try dsimp only at hSw); go_simp; (try with_reducible rfl))
        try simp only [Act.put, List.setIfInBounds_toArray, List.set_cons_zero, List.set_cons_succ]
        refine regTake (i := 7) (v := ?vg42_7) rfl (by kernel_rfl) (by kernel_rfl) (by kernel_rfl) (fun _ _ _ h => h) (Or.inl ⟨by rfl, ?hyg42_7⟩) (by assumption) ?_
        case hyg42_7 => (intro w hSw; (try dsimp only at hSw); go_simp; (try with_reducible rfl))
        try simp only [Act.put, List.setIfInBounds_toArray, List.set_cons_zero, List.set_cons_succ]
        refine regTake (i := 8) (v := ?vg42_8) rfl (by kernel_rfl) (by kernel_rfl) (by kernel_rfl) (fun _ _ _ h => h) (Or.inl ⟨by rfl, ?hyg42_8⟩) (by assumption) ?_
        case hyg42_8 => (intro w hSw; (try dsimp only at hSw); go_simp; (try with_reducible rfl))
        try simp only [Act.put, List.setIfInBounds_toArray, List.set_cons_zero, List.set_cons_succ]
        refine wpAnyH_ready (rs := [9]) (by kernel_rfl) (by simp) ?_
        refine regCons rfl (fun K hK => ?_)
        go_simp
        have hc47 := implTypeSame (gndOf (gndOf t4a)) (gndOf t4a) _ _ _ _ _ (by have := HC32.out; omega) (HA32.out.below (below_trans h033 (hkg42_0))) (HA10.out.below (below_trans h033 (hkg42_0))) (fun x hx => (HR32.out x hx).below (below_trans h033 (hkg42_0))) (fun x hx => (HR10.out x hx).below (below_trans h033 (hkg42_0)))
        rw [EQ46.out] at hc47
        refine hc47.mono ?_
        rintro e yg42_1 ⟨rfl, hyg42_1⟩
        have hkg42_1 := below_trans (hkg42_0) hyg42_1
        clear hc47
        refine hK.out _ _ ?_ (fun hS2 => ?_)
        · (refine (fun hB => ⟨hB, cell_keep xa1_ hB, cell_keep xb1_ hB, cell_keep xa2_ hB, cell_keep xb2_ hB, cell_keep xa3_ hB, cell_keep xb3_ hB, cell_keep xa4_ hB, cell_keep xb4_ hB, cell_keep xa5_ hB, cell_keep xb5_ hB, cell_keep xa6_ hB, cell_keep xb6_ hB⟩ : Below ((z32.alloc (Obj.cells #[.int .i64 k32, .slice a32 n32 c32] 25))).heap.size ((z32.alloc (Obj.cells #[.int .i64 k32, .slice a32 n32 c32] 25))) _ → _) ?_; exact hkg42_1)
        clear hK K hS1
        try simp only [Act.put, List.setIfInBounds_toArray, List.set_cons_zero, List.set_cons_succ]
        refine regTake (i := 10) (v := .bool true) rfl (by kernel_rfl) (by kernel_rfl) (by kernel_rfl) (fun _ _ _ h => h) (Or.inl ⟨by rfl, ?hyg42_10⟩) (by assumption) ?_
        case hyg42_10 => (intro w hSw; (try dsimp only at hSw); go_simp; (try with_reducible rfl))
        try simp only [Act.put, List.setIfInBounds_toArray, List.set_cons_zero, List.set_cons_succ]
        refine regTake (i := 11) (v := ?vg42_11) rfl (by kernel_rfl) (by kernel_rfl) (by kernel_rfl) (fun _ _ _ h => h) (Or.inl ⟨by rfl, ?hyg42_11⟩) (by assumption) ?_
        case hyg42_11 => (intro w hSw; (try dsimp only at hSw); go_simp; (try with_reducible rfl))
        try simp only [Act.put, List.setIfInBounds_toArray, List.set_cons_zero, List.set_cons_succ]
        refine regTake (i := 12) (v := ?vg42_12) rfl (by kernel_rfl) (by kernel_rfl) (by kernel_rfl) (fun _ _ _ h => h) (Or.inl ⟨by rfl, ?hyg42_12⟩) (by assumption) ?_
        case hyg42_12 => (intro w hSw; (try dsimp only at hSw); go_simp; (try with_reducible rfl))
        try simp only [Act.put, List.setIfInBounds_toArray, List.set_cons_zero, List.set_cons_succ]
        refine regTake (i := 13) (v := ?vg42_13) rfl (by kernel_rfl) (by kernel_rfl) (by kernel_rfl) (fun _ _ _ h => h) (Or.inl ⟨by rfl, ?hyg42_13⟩) (by assumption) ?_
        case hyg42_13 => (intro w hSw; (try dsimp only at hSw); go_simp; (try with_reducible rfl))
        try simp only [Act.put, List.setIfInBounds_toArray, List.set_cons_zero, List.set_cons_succ]
        refine regTake (i := 14) (v := ?vg42_14) rfl (by kernel_rfl) (by kernel_rfl) (by kernel_rfl) (fun _ _ _ h => h) (Or.inl ⟨by rfl, ?hyg42_14⟩) (by assumption) ?_
        case hyg42_14 => (intro w hSw; (try dsimp only at hSw); go_simp; (try with_reducible rfl))
        try simp only [Act.put, List.setIfInBounds_toArray, List.set_cons_zero, List.set_cons_succ]
        refine regTake (i := 15) (v := ?vg42_15) rfl (by kernel_rfl) (by kernel_rfl) (by kernel_rfl) (fun _ _ _ h => h) (Or.inl ⟨by rfl, ?hyg42_15⟩) (by assumption) ?_
        case hyg42_15 => (intro w hSw; (try dsimp only at hSw); go_simp; (try with_reducible rfl))
        try simp only [Act.put, List.setIfInBounds_toArray, List.set_cons_zero, List.set_cons_succ]
        refine regTake (i := 16) (v := ?vg42_16) rfl (by kernel_rfl) (by kernel_rfl) (by kernel_rfl) (fun _ _ _ h => h) (Or.inl ⟨by rfl, ?hyg42_16⟩) (by assumption) ?_
        case hyg42_16 => (intro w hSw; (try dsimp only at hSw); go_simp; (try with_reducible rfl))
        try simp only [Act.put, List.setIfInBounds_toArray, List.set_cons_zero, List.set_cons_succ]
        refine regTake (i := 18) (v := ?vg42_18) rfl (by kernel_rfl) (by kernel_rfl) (by kernel_rfl) (fun _ _ _ h => h) (Or.inl ⟨by rfl, ?hyg42_18⟩) (by assumption) ?_
        case hyg42_18 => (intro w hSw; (try dsimp only at hSw); go_simp; (try with_reducible rfl))
        try simp only [Act.put, List.setIfInBounds_toArray, List.set_cons_zero, List.set_cons_succ]
        refine regTake (i := 19) (v := ?vg42_19) rfl (by kernel_rfl) (by kernel_rfl) (by kernel_rfl) (fun _ _ _ h => h) (Or.inl ⟨by rfl, ?hyg42_19⟩) (by assumption) ?_
        case hyg42_19 => (intro w hSw; (try dsimp only at hSw); go_simp; (try with_reducible rfl))
        try simp only [Act.put, List.setIfInBounds_toArray, List.set_cons_zero, List.set_cons_succ]
        refine wpAnyH_ready (rs := [17]) (by kernel_rfl) (by simp) ?_
        refine regCons rfl (fun K hK => ?_)
        go_simp
        have hc49 := implConsistent t4a (gndOf t21a) _ _ _ _ _ (HA4a.out.below (below_trans h033 (hkg42_1))) (HA27.out.below (below_trans h033 (hkg42_1)))
        rw [EQ41.out] at hc49
        refine hc49.mono ?_
        rintro e yg42_2 ⟨rfl, hyg42_2⟩
        have hkg42_2 := below_trans (hkg42_1) hyg42_2
        clear hc49
        refine hK.out _ _ ?_ (fun hS3 => ?_)
        · (refine (fun hB => ⟨hB, cell_keep xa1_ hB, cell_keep xb1_ hB, cell_keep xa2_ hB, cell_keep xb2_ hB, cell_keep xa3_ hB, cell_keep xb3_ hB, cell_keep xa4_ hB, cell_keep xb4_ hB, cell_keep xa5_ hB, cell_keep xb5_ hB, cell_keep xa6_ hB, cell_keep xb6_ hB⟩ : Below ((z32.alloc (Obj.cells #[.int .i64 k32, .slice a32 n32 c32] 25))).heap.size ((z32.alloc (Obj.cells #[.int .i64 k32, .slice a32 n32 c32] 25))) _ → _) ?_; exact hkg42_2)
        clear hK K hS2
        try simp only [Act.put, List.setIfInBounds_toArray, List.set_cons_zero, List.set_cons_succ]
        refine wpAnyH_ready (rs := [20]) (by kernel_rfl) (by simp) ?_
        refine regCons rfl (fun K hK => ?_)
        go_simp
        have hc52 := implTypeSame (gndOf t4a) (gndOf t21a) _ _ _ _ _ (by have := HC10.out; omega) (HA10.out.below (below_trans h033 (hkg42_2))) (HA27.out.below (below_trans h033 (hkg42_2))) (fun x hx => (HR10.out x hx).below (below_trans h033 (hkg42_2))) (fun x hx => (HR27.out x hx).below (below_trans h033 (hkg42_2)))
        rw [EQ51.out] at hc52
        refine hc52.mono ?_
        rintro e yg42_3 ⟨rfl, hyg42_3⟩
        have hkg42_3 := below_trans (hkg42_2) hyg42_3
        clear hc52
        refine hK.out _ _ ?_ (fun hS4 => ?_)
        · (refine (fun hB => ⟨hB, cell_keep xa1_ hB, cell_keep xb1_ hB, cell_keep xa2_ hB, cell_keep xb2_ hB, cell_keep xa3_ hB, cell_keep xb3_ hB, cell_keep xa4_ hB, cell_keep xb4_ hB, cell_keep xa5_ hB, cell_keep xb5_ hB, cell_keep xa6_ hB, cell_keep xb6_ hB⟩ : Below ((z32.alloc (Obj.cells #[.int .i64 k32, .slice a32 n32 c32] 25))).heap.size ((z32.alloc (Obj.cells #[.int .i64 k32, .slice a32 n32 c32] 25))) _ → _) ?_; exact hkg42_3)
        clear hK K hS3
        try simp only [Act.put, List.setIfInBounds_toArray, List.set_cons_zero, List.set_cons_succ]
        refine regTake (i := 21) (v := ?vg42_21) rfl (by kernel_rfl) (by kernel_rfl) (by kernel_rfl) (fun _ _ _ h => h) (Or.inl ⟨by rfl, ?hyg42_21⟩) (by assumption) ?_
        case hyg42_21 => (intro w hSw; (try dsimp only at hSw); go_simp; (try with_reducible rfl))
        try simp only [Act.put, List.setIfInBounds_toArray, List.set_cons_zero, List.set_cons_succ]
        refine regTake (i := 22) (v := .bool true) rfl (by kernel_rfl) (by kernel_rfl) (by kernel_rfl) (fun _ _ _ h => h) (Or.inl ⟨by rfl, ?hyg42_22⟩) (by assumption) ?_
        case hyg42_22 => (intro w hSw; (try dsimp only at hSw); go_simp; (try with_reducible rfl))
        try simp only [Act.put, List.setIfInBounds_toArray, List.set_cons_zero, List.set_cons_succ]
        refine regTake (i := 23) (v := .bool true) rfl (by kernel_rfl) (by kernel_rfl) (by kernel_rfl) (fun _ _ _ h => h) (Or.inl ⟨by rfl, ?hyg42_23⟩) (by assumption) ?_
        case hyg42_23 => (intro w hSw; (try dsimp only at hSw); go_simp; (try with_reducible rfl))
        try simp only [Act.put, List.setIfInBounds_toArray, List.set_cons_zero, List.set_cons_succ]
        refine regTake (i := 24) (v := ?vg42_24) rfl (by kernel_rfl) (by kernel_rfl) (by kernel_rfl) (fun _ _ _ h => h) (Or.inl ⟨by rfl, ?hyg42_24⟩) (by assumption) ?_
        case hyg42_24 => (intro w hSw; (try dsimp only at hSw); go_simp; (try with_reducible rfl))
        try simp only [Act.put, List.setIfInBounds_toArray, List.set_cons_zero, List.set_cons_succ]
        refine wpAnyH_done (by kernel_rfl) ?_ _
        have hlg42_ := below_trans h033 hkg42_3
        replace xa1_ := cell_keep xa1_ hkg42_3
        replace xb1_ := cell_keep xb1_ hkg42_3
        replace xa2_ := cell_keep xa2_ hkg42_3
        replace xb2_ := cell_keep xb2_ hkg42_3
        replace xa3_ := cell_keep xa3_ hkg42_3
        replace xb3_ := cell_keep xb3_ hkg42_3
        replace xa4_ := cell_keep xa4_ hkg42_3
        replace xb4_ := cell_keep xb4_ hkg42_3
        replace xa5_ := cell_keep xa5_ hkg42_3
        replace xb5_ := cell_keep xb5_ hkg42_3
        replace xa6_ := cell_keep xa6_ hkg42_3
        replace xb6_ := cell_keep xb6_ hkg42_3
        go_wp2_with fail
        go_ret
        exact ⟨rfl, below_trans HBL.out hlg42_⟩
      · have EQ41 := hid hq41
        clear hq41
        have EQ55 := hid (show precOf t4a (gndOf t4a) = true from (gnd_pure t4a EQ7.out).1)
        have EQ58 := hid (show tyEq (gndOf (gndOf t4a)) (gndOf t4a) = true from (by rw [(gnd_pure t4a EQ7.out).2.2]; exact tyEq_refl _))
        have EQ63 := hid (show tyEq (gndOf t4a) (gndOf t21a) = false from (by rw [← gnd_cons t4a t21a EQ7.out EQ24.out]; exact EQ41.out))
        go_wp2_with fail
        refine wp_region_held_drew (S := (fun w' => Below ((z32.alloc (Obj.cells #[.int .i64 k32, .slice a32 n32 c32] 25))).heap.size ((z32.alloc (Obj.cells #[.int .i64 k32, .slice a32 n32 c32] 25))) w' ∧ w'.cell? ⟨z4.heap.size, 0, none⟩ = some (.int .i64 k4a) ∧ w'.cell? ⟨z4.heap.size, 1, none⟩ = some (.slice a4a n4a c4a) ∧ w'.cell? ⟨z10.heap.size, 0, none⟩ = some (.int .i64 k10) ∧ w'.cell? ⟨z10.heap.size, 1, none⟩ = some (.slice a10 n10 c10) ∧ w'.cell? ⟨z14.heap.size, 0, none⟩ = some (.int .i64 k14) ∧ w'.cell? ⟨z14.heap.size, 1, none⟩ = some (.slice a14 n14 c14) ∧ w'.cell? ⟨z21.heap.size, 0, none⟩ = some (.int .i64 k21a) ∧ w'.cell? ⟨z21.heap.size, 1, none⟩ = some (.slice a21a n21a c21a) ∧ w'.cell? ⟨z27.heap.size, 0, none⟩ = some (.int .i64 k27) ∧ w'.cell? ⟨z27.heap.size, 1, none⟩ = some (.slice a27 n27 c27) ∧ w'.cell? ⟨z32.heap.size, 0, none⟩ = some (.int .i64 k32) ∧ w'.cell? ⟨z32.heap.size, 1, none⟩ = some (.slice a32 n32 c32))) (by kernel_rfl) ?_ (fun hS0 => ?_)
        · (refine (fun hB => ⟨hB, cell_keep xa1_ hB, cell_keep xb1_ hB, cell_keep xa2_ hB, cell_keep xb2_ hB, cell_keep xa3_ hB, cell_keep xb3_ hB, cell_keep xa4_ hB, cell_keep xb4_ hB, cell_keep xa5_ hB, cell_keep xb5_ hB, cell_keep xa6_ hB, cell_keep xb6_ hB⟩ : Below ((z32.alloc (Obj.cells #[.int .i64 k32, .slice a32 n32 c32] 25))).heap.size ((z32.alloc (Obj.cells #[.int .i64 k32, .slice a32 n32 c32] 25))) _ → _) ?_; exact below_drew _)
        refine regTake (i := 0) (v := ?vg54_0) rfl (by kernel_rfl) (by kernel_rfl) (by kernel_rfl) (fun _ _ _ h => h) (Or.inl ⟨by rfl, ?hyg54_0⟩) (by assumption) ?_
        case hyg54_0 => (intro w hSw; (try dsimp only at hSw); go_simp; (try with_reducible rfl))
        try simp only [Act.put, List.setIfInBounds_toArray, List.set_cons_zero, List.set_cons_succ]
        refine regTake (i := 1) (v := ?vg54_1) rfl (by kernel_rfl) (by kernel_rfl) (by kernel_rfl) (fun _ _ _ h => h) (Or.inl ⟨by rfl, ?hyg54_1⟩) (by assumption) ?_
        case hyg54_1 => (intro w hSw; (try dsimp only at hSw); go_simp; (try with_reducible rfl))
        try simp only [Act.put, List.setIfInBounds_toArray, List.set_cons_zero, List.set_cons_succ]
        refine wpAnyH_ready (rs := [2]) (by kernel_rfl) (by simp) ?_
        refine regCons rfl (fun K hK => ?_)
        go_simp
        have hc56 := implPrecise t4a (gndOf t4a) _ _ _ _ _ (HA4a.out.below (below_trans h033 (below_drew ((z32.alloc (Obj.cells #[.int .i64 k32, .slice a32 n32 c32] 25)))))) (HA10.out.below (below_trans h033 (below_drew ((z32.alloc (Obj.cells #[.int .i64 k32, .slice a32 n32 c32] 25))))))
        rw [EQ55.out] at hc56
        refine hc56.mono ?_
        rintro e yg54_0 ⟨rfl, hyg54_0⟩
        have hkg54_0 := below_trans (below_drew ((z32.alloc (Obj.cells #[.int .i64 k32, .slice a32 n32 c32] 25)))) hyg54_0
        clear hc56
        refine hK.out _ _ ?_ (fun hS1 => ?_)
        · (refine (fun hB => ⟨hB, cell_keep xa1_ hB, cell_keep xb1_ hB, cell_keep xa2_ hB, cell_keep xb2_ hB, cell_keep xa3_ hB, cell_keep xb3_ hB, cell_keep xa4_ hB, cell_keep xb4_ hB, cell_keep xa5_ hB, cell_keep xb5_ hB, cell_keep xa6_ hB, cell_keep xb6_ hB⟩ : Below ((z32.alloc (Obj.cells #[.int .i64 k32, .slice a32 n32 c32] 25))).heap.size ((z32.alloc (Obj.cells #[.int .i64 k32, .slice a32 n32 c32] 25))) _ → _) ?_; exact hkg54_0)
        clear hK K hS0
        try simp only [Act.put, List.setIfInBounds_toArray, List.set_cons_zero, List.set_cons_succ]
        refine regTake (i := 3) (v := ?vg54_3) rfl (by kernel_rfl) (by kernel_rfl) (by kernel_rfl) (fun _ _ _ h => h) (Or.inl ⟨by rfl, ?hyg54_3⟩) (by assumption) ?_
        case hyg54_3 => (intro w hSw; (try dsimp only at hSw); go_simp; (try with_reducible rfl))
        try simp only [Act.put, List.setIfInBounds_toArray, List.set_cons_zero, List.set_cons_succ]
        refine regTake (i := 4) (v := ?vg54_4) rfl (by kernel_rfl) (by kernel_rfl) (by kernel_rfl) (fun _ _ _ h => h) (Or.inl ⟨by rfl, ?hyg54_4⟩) (by assumption) ?_
        case hyg54_4 => (intro w hSw; (try dsimp only at hSw); go_simp; (try with_reducible rfl))
        try simp only [Act.put, List.setIfInBounds_toArray, List.set_cons_zero, List.set_cons_succ]
        refine regTake (i := 5) (v := .bool true) rfl (by kernel_rfl) (by kernel_rfl) (by kernel_rfl) (fun _ _ _ h => h) (Or.inl ⟨by rfl, ?hyg54_5⟩) (by assumption) ?_
        case hyg54_5 => (intro w hSw; (try dsimp only at hSw); go_simp; (try with_reducible rfl))
        try simp only [Act.put, List.setIfInBounds_toArray, List.set_cons_zero, List.set_cons_succ]
        refine regTake (i := 6) (v := ?vg54_6) rfl (by kernel_rfl) (by kernel_rfl) (by kernel_rfl) (fun _ _ _ h => h) (Or.inl ⟨by rfl, ?hyg54_6⟩) (by assumption) ?_
        case hyg54_6 => (intro w hSw; (try dsimp only at hSw); go_simp; (try with_reducible rfl))
        try simp only [Act.put, List.setIfInBounds_toArray, List.set_cons_zero, List.set_cons_succ]
        refine regTake (i := 7) (v := ?vg54_7) rfl (by kernel_rfl) (by kernel_rfl) (by kernel_rfl) (fun _ _ _ h => h) (Or.inl ⟨by rfl, ?hyg54_7⟩) (by assumption) ?_
        case hyg54_7 => (intro w hSw; (try dsimp only at hSw); go_simp; (try with_reducible rfl))
        try simp only [Act.put, List.setIfInBounds_toArray, List.set_cons_zero, List.set_cons_succ]
        refine regTake (i := 8) (v := ?vg54_8) rfl (by kernel_rfl) (by kernel_rfl) (by kernel_rfl) (fun _ _ _ h => h) (Or.inl ⟨by rfl, ?hyg54_8⟩) (by assumption) ?_
        case hyg54_8 => (intro w hSw; (try dsimp only at hSw); go_simp; (try with_reducible rfl))
        try simp only [Act.put, List.setIfInBounds_toArray, List.set_cons_zero, List.set_cons_succ]
        refine wpAnyH_ready (rs := [9]) (by kernel_rfl) (by simp) ?_
        refine regCons rfl (fun K hK => ?_)
        go_simp
        have hc59 := implTypeSame (gndOf (gndOf t4a)) (gndOf t4a) _ _ _ _ _ (by have := HC32.out; omega) (HA32.out.below (below_trans h033 (hkg54_0))) (HA10.out.below (below_trans h033 (hkg54_0))) (fun x hx => (HR32.out x hx).below (below_trans h033 (hkg54_0))) (fun x hx => (HR10.out x hx).below (below_trans h033 (hkg54_0)))
        rw [EQ58.out] at hc59
        refine hc59.mono ?_
        rintro e yg54_1 ⟨rfl, hyg54_1⟩
        have hkg54_1 := below_trans (hkg54_0) hyg54_1
        clear hc59
        refine hK.out _ _ ?_ (fun hS2 => ?_)
        · (refine (fun hB => ⟨hB, cell_keep xa1_ hB, cell_keep xb1_ hB, cell_keep xa2_ hB, cell_keep xb2_ hB, cell_keep xa3_ hB, cell_keep xb3_ hB, cell_keep xa4_ hB, cell_keep xb4_ hB, cell_keep xa5_ hB, cell_keep xb5_ hB, cell_keep xa6_ hB, cell_keep xb6_ hB⟩ : Below ((z32.alloc (Obj.cells #[.int .i64 k32, .slice a32 n32 c32] 25))).heap.size ((z32.alloc (Obj.cells #[.int .i64 k32, .slice a32 n32 c32] 25))) _ → _) ?_; exact hkg54_1)
        clear hK K hS1
        try simp only [Act.put, List.setIfInBounds_toArray, List.set_cons_zero, List.set_cons_succ]
        refine regTake (i := 10) (v := .bool true) rfl (by kernel_rfl) (by kernel_rfl) (by kernel_rfl) (fun _ _ _ h => h) (Or.inl ⟨by rfl, ?hyg54_10⟩) (by assumption) ?_
        case hyg54_10 => (intro w hSw; (try dsimp only at hSw); go_simp; (try with_reducible rfl))
        try simp only [Act.put, List.setIfInBounds_toArray, List.set_cons_zero, List.set_cons_succ]
        refine regTake (i := 11) (v := ?vg54_11) rfl (by kernel_rfl) (by kernel_rfl) (by kernel_rfl) (fun _ _ _ h => h) (Or.inl ⟨by rfl, ?hyg54_11⟩) (by assumption) ?_
        case hyg54_11 => (intro w hSw; (try dsimp only at hSw); go_simp; (try with_reducible rfl))
        try simp only [Act.put, List.setIfInBounds_toArray, List.set_cons_zero, List.set_cons_succ]
        refine regTake (i := 12) (v := ?vg54_12) rfl (by kernel_rfl) (by kernel_rfl) (by kernel_rfl) (fun _ _ _ h => h) (Or.inl ⟨by rfl, ?hyg54_12⟩) (by assumption) ?_
        case hyg54_12 => (intro w hSw; (try dsimp only at hSw); go_simp; (try with_reducible rfl))
        try simp only [Act.put, List.setIfInBounds_toArray, List.set_cons_zero, List.set_cons_succ]
        refine regTake (i := 13) (v := ?vg54_13) rfl (by kernel_rfl) (by kernel_rfl) (by kernel_rfl) (fun _ _ _ h => h) (Or.inl ⟨by rfl, ?hyg54_13⟩) (by assumption) ?_
        case hyg54_13 => (intro w hSw; (try dsimp only at hSw); go_simp; (try with_reducible rfl))
        try simp only [Act.put, List.setIfInBounds_toArray, List.set_cons_zero, List.set_cons_succ]
        refine regTake (i := 14) (v := ?vg54_14) rfl (by kernel_rfl) (by kernel_rfl) (by kernel_rfl) (fun _ _ _ h => h) (Or.inl ⟨by rfl, ?hyg54_14⟩) (by assumption) ?_
        case hyg54_14 => (intro w hSw; (try dsimp only at hSw); go_simp; (try with_reducible rfl))
        try simp only [Act.put, List.setIfInBounds_toArray, List.set_cons_zero, List.set_cons_succ]
        refine regTake (i := 15) (v := ?vg54_15) rfl (by kernel_rfl) (by kernel_rfl) (by kernel_rfl) (fun _ _ _ h => h) (Or.inl ⟨by rfl, ?hyg54_15⟩) (by assumption) ?_
        case hyg54_15 => (intro w hSw; (try dsimp only at hSw); go_simp; (try with_reducible rfl))
        try simp only [Act.put, List.setIfInBounds_toArray, List.set_cons_zero, List.set_cons_succ]
        refine regTake (i := 16) (v := ?vg54_16) rfl (by kernel_rfl) (by kernel_rfl) (by kernel_rfl) (fun _ _ _ h => h) (Or.inl ⟨by rfl, ?hyg54_16⟩) (by assumption) ?_
        case hyg54_16 => (intro w hSw; (try dsimp only at hSw); go_simp; (try with_reducible rfl))
        try simp only [Act.put, List.setIfInBounds_toArray, List.set_cons_zero, List.set_cons_succ]
        refine regTake (i := 18) (v := ?vg54_18) rfl (by kernel_rfl) (by kernel_rfl) (by kernel_rfl) (fun _ _ _ h => h) (Or.inl ⟨by rfl, ?hyg54_18⟩) (by assumption) ?_
        case hyg54_18 => (intro w hSw; (try dsimp only at hSw); go_simp; (try with_reducible rfl))
        try simp only [Act.put, List.setIfInBounds_toArray, List.set_cons_zero, List.set_cons_succ]
        refine regTake (i := 19) (v := ?vg54_19) rfl (by kernel_rfl) (by kernel_rfl) (by kernel_rfl) (fun _ _ _ h => h) (Or.inl ⟨by rfl, ?hyg54_19⟩) (by assumption) ?_
        case hyg54_19 => (intro w hSw; (try dsimp only at hSw); go_simp; (try with_reducible rfl))
        try simp only [Act.put, List.setIfInBounds_toArray, List.set_cons_zero, List.set_cons_succ]
        refine wpAnyH_ready (rs := [17]) (by kernel_rfl) (by simp) ?_
        refine regCons rfl (fun K hK => ?_)
        go_simp
        have hc61 := implConsistent t4a (gndOf t21a) _ _ _ _ _ (HA4a.out.below (below_trans h033 (hkg54_1))) (HA27.out.below (below_trans h033 (hkg54_1)))
        rw [EQ41.out] at hc61
        refine hc61.mono ?_
        rintro e yg54_2 ⟨rfl, hyg54_2⟩
        have hkg54_2 := below_trans (hkg54_1) hyg54_2
        clear hc61
        refine hK.out _ _ ?_ (fun hS3 => ?_)
        · (refine (fun hB => ⟨hB, cell_keep xa1_ hB, cell_keep xb1_ hB, cell_keep xa2_ hB, cell_keep xb2_ hB, cell_keep xa3_ hB, cell_keep xb3_ hB, cell_keep xa4_ hB, cell_keep xb4_ hB, cell_keep xa5_ hB, cell_keep xb5_ hB, cell_keep xa6_ hB, cell_keep xb6_ hB⟩ : Below ((z32.alloc (Obj.cells #[.int .i64 k32, .slice a32 n32 c32] 25))).heap.size ((z32.alloc (Obj.cells #[.int .i64 k32, .slice a32 n32 c32] 25))) _ → _) ?_; exact hkg54_2)
        clear hK K hS2
        try simp only [Act.put, List.setIfInBounds_toArray, List.set_cons_zero, List.set_cons_succ]
        refine wpAnyH_ready (rs := [20]) (by kernel_rfl) (by simp) ?_
        refine regCons rfl (fun K hK => ?_)
        go_simp
        have hc64 := implTypeSame (gndOf t4a) (gndOf t21a) _ _ _ _ _ (by have := HC10.out; omega) (HA10.out.below (below_trans h033 (hkg54_2))) (HA27.out.below (below_trans h033 (hkg54_2))) (fun x hx => (HR10.out x hx).below (below_trans h033 (hkg54_2))) (fun x hx => (HR27.out x hx).below (below_trans h033 (hkg54_2)))
        rw [EQ63.out] at hc64
        refine hc64.mono ?_
        rintro e yg54_3 ⟨rfl, hyg54_3⟩
        have hkg54_3 := below_trans (hkg54_2) hyg54_3
        clear hc64
        refine hK.out _ _ ?_ (fun hS4 => ?_)
        · (refine (fun hB => ⟨hB, cell_keep xa1_ hB, cell_keep xb1_ hB, cell_keep xa2_ hB, cell_keep xb2_ hB, cell_keep xa3_ hB, cell_keep xb3_ hB, cell_keep xa4_ hB, cell_keep xb4_ hB, cell_keep xa5_ hB, cell_keep xb5_ hB, cell_keep xa6_ hB, cell_keep xb6_ hB⟩ : Below ((z32.alloc (Obj.cells #[.int .i64 k32, .slice a32 n32 c32] 25))).heap.size ((z32.alloc (Obj.cells #[.int .i64 k32, .slice a32 n32 c32] 25))) _ → _) ?_; exact hkg54_3)
        clear hK K hS3
        try simp only [Act.put, List.setIfInBounds_toArray, List.set_cons_zero, List.set_cons_succ]
        refine regTake (i := 21) (v := ?vg54_21) rfl (by kernel_rfl) (by kernel_rfl) (by kernel_rfl) (fun _ _ _ h => h) (Or.inl ⟨by rfl, ?hyg54_21⟩) (by assumption) ?_
        case hyg54_21 => (intro w hSw; (try dsimp only at hSw); go_simp; (try with_reducible rfl))
        try simp only [Act.put, List.setIfInBounds_toArray, List.set_cons_zero, List.set_cons_succ]
        refine regTake (i := 22) (v := .bool true) rfl (by kernel_rfl) (by kernel_rfl) (by kernel_rfl) (fun _ _ _ h => h) (Or.inl ⟨by rfl, ?hyg54_22⟩) (by assumption) ?_
        case hyg54_22 => (intro w hSw; (try dsimp only at hSw); go_simp; (try with_reducible rfl))
        try simp only [Act.put, List.setIfInBounds_toArray, List.set_cons_zero, List.set_cons_succ]
        refine regTake (i := 23) (v := .bool true) rfl (by kernel_rfl) (by kernel_rfl) (by kernel_rfl) (fun _ _ _ h => h) (Or.inl ⟨by rfl, ?hyg54_23⟩) (by assumption) ?_
        case hyg54_23 => (intro w hSw; (try dsimp only at hSw); go_simp; (try with_reducible rfl))
        try simp only [Act.put, List.setIfInBounds_toArray, List.set_cons_zero, List.set_cons_succ]
        refine regTake (i := 24) (v := ?vg54_24) rfl (by kernel_rfl) (by kernel_rfl) (by kernel_rfl) (fun _ _ _ h => h) (Or.inl ⟨by rfl, ?hyg54_24⟩) (by assumption) ?_
        case hyg54_24 => (intro w hSw; (try dsimp only at hSw); go_simp; (try with_reducible rfl))
        try simp only [Act.put, List.setIfInBounds_toArray, List.set_cons_zero, List.set_cons_succ]
        refine wpAnyH_done (by kernel_rfl) ?_ _
        have hlg54_ := below_trans h033 hkg54_3
        replace xa1_ := cell_keep xa1_ hkg54_3
        replace xb1_ := cell_keep xb1_ hkg54_3
        replace xa2_ := cell_keep xa2_ hkg54_3
        replace xb2_ := cell_keep xb2_ hkg54_3
        replace xa3_ := cell_keep xa3_ hkg54_3
        replace xb3_ := cell_keep xb3_ hkg54_3
        replace xa4_ := cell_keep xa4_ hkg54_3
        replace xb4_ := cell_keep xb4_ hkg54_3
        replace xa5_ := cell_keep xa5_ hkg54_3
        replace xb5_ := cell_keep xb5_ hkg54_3
        replace xa6_ := cell_keep xa6_ hkg54_3
        replace xb6_ := cell_keep xb6_ hkg54_3
        go_wp2_with fail
        go_ret
        exact ⟨rfl, below_trans HBL.out hlg54_⟩
    · have EQ24 := hid hq24
      clear hq24
      go_wp2_with fail
      have hc67 := implGroundOf t21a _ _ _ (HA21a.out.below h022) (by have := HC21a.out; omega)
      rw [EQ24.out] at hc67
      refine hc67.mono ?_
      rintro e z68 ⟨v68, f68, rfl, ht68, hf68, hz68⟩
      obtain ⟨k68, n68, a68, c68, rfl⟩ := ht68.agg
      clear hc67
      have hba69 : Below z68.heap.size z68 (z68.alloc (Obj.cells #[.int .i64 k68, .slice a68 n68 c68] 25)) := ((Below.refl _ _).alloc (Nat.le_refl _) _)
      have hbb69 := below_trans hz68 hba69
      have hbc69 := below_trans h022 hbb69
      replace HA4a := hid (HA4a.out.below hbc69)
      replace HR4a := hid (fun x hx => (HR4a.out x hx).below hbc69)
      replace HA10 := hid (HA10.out.below hbc69)
      replace HR10 := hid (fun x hx => (HR10.out x hx).below hbc69)
      replace HA14 := hid (HA14.out.below hbc69)
      replace HR14 := hid (fun x hx => (HR14.out x hx).below hbc69)
      replace HA21a := hid (HA21a.out.below hbc69)
      replace HR21a := hid (fun x hx => (HR21a.out x hx).below hbc69)
      replace HBL := hid (below_trans HBL.out hbc69)
      replace xa1_ := cell_keep xa1_ hbb69
      replace xb1_ := cell_keep xb1_ hbb69
      replace xa2_ := cell_keep xa2_ hbb69
      replace xb2_ := cell_keep xb2_ hbb69
      replace xa3_ := cell_keep xa3_ hbb69
      replace xb3_ := cell_keep xb3_ hbb69
      replace xa4_ := cell_keep xa4_ hbb69
      replace xb4_ := cell_keep xb4_ hbb69
      have hl69 := lay1 z68 (Obj.cells #[.int .i64 k68, .slice a68 n68 c68] 25)
      have HA68 := hid (ht68.below hba69)
      have HR68 := hid (show ∀ x ∈ f68, Raw (z68.alloc (Obj.cells #[.int .i64 k68, .slice a68 n68 c68] 25)) x from fun x hx => Raw.below (Fresh.raw ht68 hf68 x hx) hba69)
      have HC68 := hid (show ((gndOf t21a) : Ty).cnt ≤ 100 from (Nat.le_trans (gndOf_cnt t21a) HC21a.out))
      have xa7_ : ((z68.alloc (Obj.cells #[.int .i64 k68, .slice a68 n68 c68] 25))).cell? ⟨z68.heap.size, 0, none⟩ = some (.int .i64 k68) := by rw [cell_of_block (hl69)]; rfl
      have xb7_ : ((z68.alloc (Obj.cells #[.int .i64 k68, .slice a68 n68 c68] 25))).cell? ⟨z68.heap.size, 1, none⟩ = some (.slice a68 n68 c68) := by rw [cell_of_block (hl69)]; rfl
      have h069 := Below.refl ((z68.alloc (Obj.cells #[.int .i64 k68, .slice a68 n68 c68] 25))).heap.size (z68.alloc (Obj.cells #[.int .i64 k68, .slice a68 n68 c68] 25))
      clear ht68
      clear hba69 hbb69 hbc69 hl69 hz68
      have EQ71 := hid (show gndOk (gndOf t4a) = true from (gnd_pure t4a EQ7.out).2.1)
      go_wp2_with fail
      have hc72 := implGroundOf (gndOf t4a) _ _ _ (HA10.out.below h069) (by have := HC10.out; omega)
      rw [EQ71.out] at hc72
      refine hc72.mono ?_
      rintro e z73 ⟨v73, f73, rfl, ht73, hf73, hz73⟩
      obtain ⟨k73, n73, a73, c73, rfl⟩ := ht73.agg
      clear hc72
      have hba74 : Below z73.heap.size z73 (z73.alloc (Obj.cells #[.int .i64 k73, .slice a73 n73 c73] 25)) := ((Below.refl _ _).alloc (Nat.le_refl _) _)
      have hbb74 := below_trans hz73 hba74
      have hbc74 := below_trans h069 hbb74
      replace HA4a := hid (HA4a.out.below hbc74)
      replace HR4a := hid (fun x hx => (HR4a.out x hx).below hbc74)
      replace HA10 := hid (HA10.out.below hbc74)
      replace HR10 := hid (fun x hx => (HR10.out x hx).below hbc74)
      replace HA14 := hid (HA14.out.below hbc74)
      replace HR14 := hid (fun x hx => (HR14.out x hx).below hbc74)
      replace HA21a := hid (HA21a.out.below hbc74)
      replace HR21a := hid (fun x hx => (HR21a.out x hx).below hbc74)
      replace HA68 := hid (HA68.out.below hbc74)
      replace HR68 := hid (fun x hx => (HR68.out x hx).below hbc74)
      replace HBL := hid (below_trans HBL.out hbc74)
      replace xa1_ := cell_keep xa1_ hbb74
      replace xb1_ := cell_keep xb1_ hbb74
      replace xa2_ := cell_keep xa2_ hbb74
      replace xb2_ := cell_keep xb2_ hbb74
      replace xa3_ := cell_keep xa3_ hbb74
      replace xb3_ := cell_keep xb3_ hbb74
      replace xa4_ := cell_keep xa4_ hbb74
      replace xb4_ := cell_keep xb4_ hbb74
      replace xa7_ := cell_keep xa7_ hbb74
      replace xb7_ := cell_keep xb7_ hbb74
      have hl74 := lay1 z73 (Obj.cells #[.int .i64 k73, .slice a73 n73 c73] 25)
      have HA73 := hid (ht73.below hba74)
      have HR73 := hid (show ∀ x ∈ f73, Raw (z73.alloc (Obj.cells #[.int .i64 k73, .slice a73 n73 c73] 25)) x from fun x hx => Raw.below (Fresh.raw ht73 hf73 x hx) hba74)
      have HC73 := hid (show ((gndOf (gndOf t4a)) : Ty).cnt ≤ 100 from (Nat.le_trans (gndOf_cnt (gndOf t4a)) HC10.out))
      have xa8_ : ((z73.alloc (Obj.cells #[.int .i64 k73, .slice a73 n73 c73] 25))).cell? ⟨z73.heap.size, 0, none⟩ = some (.int .i64 k73) := by rw [cell_of_block (hl74)]; rfl
      have xb8_ : ((z73.alloc (Obj.cells #[.int .i64 k73, .slice a73 n73 c73] 25))).cell? ⟨z73.heap.size, 1, none⟩ = some (.slice a73 n73 c73) := by rw [cell_of_block (hl74)]; rfl
      have h074 := Below.refl ((z73.alloc (Obj.cells #[.int .i64 k73, .slice a73 n73 c73] 25))).heap.size (z73.alloc (Obj.cells #[.int .i64 k73, .slice a73 n73 c73] 25))
      clear ht73
      clear hba74 hbb74 hbc74 hl74 hz73
      have EQ76 := hid (show precOf t4a (gndOf t4a) = true from (gnd_pure t4a EQ7.out).1)
      have EQ79 := hid (show tyEq (gndOf (gndOf t4a)) (gndOf t4a) = true from (by rw [(gnd_pure t4a EQ7.out).2.2]; exact tyEq_refl _))
      go_wp2_with fail
      refine wp_region_held_drew (S := (fun w' => Below ((z73.alloc (Obj.cells #[.int .i64 k73, .slice a73 n73 c73] 25))).heap.size ((z73.alloc (Obj.cells #[.int .i64 k73, .slice a73 n73 c73] 25))) w' ∧ w'.cell? ⟨z4.heap.size, 0, none⟩ = some (.int .i64 k4a) ∧ w'.cell? ⟨z4.heap.size, 1, none⟩ = some (.slice a4a n4a c4a) ∧ w'.cell? ⟨z10.heap.size, 0, none⟩ = some (.int .i64 k10) ∧ w'.cell? ⟨z10.heap.size, 1, none⟩ = some (.slice a10 n10 c10) ∧ w'.cell? ⟨z14.heap.size, 0, none⟩ = some (.int .i64 k14) ∧ w'.cell? ⟨z14.heap.size, 1, none⟩ = some (.slice a14 n14 c14) ∧ w'.cell? ⟨z21.heap.size, 0, none⟩ = some (.int .i64 k21a) ∧ w'.cell? ⟨z21.heap.size, 1, none⟩ = some (.slice a21a n21a c21a) ∧ w'.cell? ⟨z68.heap.size, 0, none⟩ = some (.int .i64 k68) ∧ w'.cell? ⟨z68.heap.size, 1, none⟩ = some (.slice a68 n68 c68) ∧ w'.cell? ⟨z73.heap.size, 0, none⟩ = some (.int .i64 k73) ∧ w'.cell? ⟨z73.heap.size, 1, none⟩ = some (.slice a73 n73 c73))) (by kernel_rfl) ?_ (fun hS0 => ?_)
      · (refine (fun hB => ⟨hB, cell_keep xa1_ hB, cell_keep xb1_ hB, cell_keep xa2_ hB, cell_keep xb2_ hB, cell_keep xa3_ hB, cell_keep xb3_ hB, cell_keep xa4_ hB, cell_keep xb4_ hB, cell_keep xa7_ hB, cell_keep xb7_ hB, cell_keep xa8_ hB, cell_keep xb8_ hB⟩ : Below ((z73.alloc (Obj.cells #[.int .i64 k73, .slice a73 n73 c73] 25))).heap.size ((z73.alloc (Obj.cells #[.int .i64 k73, .slice a73 n73 c73] 25))) _ → _) ?_; exact below_drew _)
      refine regTake (i := 0) (v := ?vg75_0) rfl (by kernel_rfl) (by kernel_rfl) (by kernel_rfl) (fun _ _ _ h => h) (Or.inl ⟨by rfl, ?hyg75_0⟩) (by assumption) ?_
      case hyg75_0 => (intro w hSw; (try dsimp only at hSw); go_simp; (try with_reducible rfl))
      try simp only [Act.put, List.setIfInBounds_toArray, List.set_cons_zero, List.set_cons_succ]
      refine regTake (i := 1) (v := ?vg75_1) rfl (by kernel_rfl) (by kernel_rfl) (by kernel_rfl) (fun _ _ _ h => h) (Or.inl ⟨by rfl, ?hyg75_1⟩) (by assumption) ?_
      case hyg75_1 => (intro w hSw; (try dsimp only at hSw); go_simp; (try with_reducible rfl))
      try simp only [Act.put, List.setIfInBounds_toArray, List.set_cons_zero, List.set_cons_succ]
      refine wpAnyH_ready (rs := [2]) (by kernel_rfl) (by simp) ?_
      refine regCons rfl (fun K hK => ?_)
      go_simp
      have hc77 := implPrecise t4a (gndOf t4a) _ _ _ _ _ (HA4a.out.below (below_trans h074 (below_drew ((z73.alloc (Obj.cells #[.int .i64 k73, .slice a73 n73 c73] 25)))))) (HA10.out.below (below_trans h074 (below_drew ((z73.alloc (Obj.cells #[.int .i64 k73, .slice a73 n73 c73] 25))))))
      rw [EQ76.out] at hc77
      refine hc77.mono ?_
      rintro e yg75_0 ⟨rfl, hyg75_0⟩
      have hkg75_0 := below_trans (below_drew ((z73.alloc (Obj.cells #[.int .i64 k73, .slice a73 n73 c73] 25)))) hyg75_0
      clear hc77
      refine hK.out _ _ ?_ (fun hS1 => ?_)
      · (refine (fun hB => ⟨hB, cell_keep xa1_ hB, cell_keep xb1_ hB, cell_keep xa2_ hB, cell_keep xb2_ hB, cell_keep xa3_ hB, cell_keep xb3_ hB, cell_keep xa4_ hB, cell_keep xb4_ hB, cell_keep xa7_ hB, cell_keep xb7_ hB, cell_keep xa8_ hB, cell_keep xb8_ hB⟩ : Below ((z73.alloc (Obj.cells #[.int .i64 k73, .slice a73 n73 c73] 25))).heap.size ((z73.alloc (Obj.cells #[.int .i64 k73, .slice a73 n73 c73] 25))) _ → _) ?_; exact hkg75_0)
      clear hK K hS0
      try simp only [Act.put, List.setIfInBounds_toArray, List.set_cons_zero, List.set_cons_succ]
      refine regTake (i := 3) (v := ?vg75_3) rfl (by kernel_rfl) (by kernel_rfl) (by kernel_rfl) (fun _ _ _ h => h) (Or.inl ⟨by rfl, ?hyg75_3⟩) (by assumption) ?_
      case hyg75_3 => (intro w hSw; (try dsimp only at hSw); go_simp; (try with_reducible rfl))
      try simp only [Act.put, List.setIfInBounds_toArray, List.set_cons_zero, List.set_cons_succ]
      refine regTake (i := 4) (v := ?vg75_4) rfl (by kernel_rfl) (by kernel_rfl) (by kernel_rfl) (fun _ _ _ h => h) (Or.inl ⟨by rfl, ?hyg75_4⟩) (by assumption) ?_
      case hyg75_4 => (intro w hSw; (try dsimp only at hSw); go_simp; (try with_reducible rfl))
      try simp only [Act.put, List.setIfInBounds_toArray, List.set_cons_zero, List.set_cons_succ]
      refine regTake (i := 5) (v := .bool true) rfl (by kernel_rfl) (by kernel_rfl) (by kernel_rfl) (fun _ _ _ h => h) (Or.inl ⟨by rfl, ?hyg75_5⟩) (by assumption) ?_
      case hyg75_5 => (intro w hSw; (try dsimp only at hSw); go_simp; (try with_reducible rfl))
      try simp only [Act.put, List.setIfInBounds_toArray, List.set_cons_zero, List.set_cons_succ]
      refine regTake (i := 6) (v := ?vg75_6) rfl (by kernel_rfl) (by kernel_rfl) (by kernel_rfl) (fun _ _ _ h => h) (Or.inl ⟨by rfl, ?hyg75_6⟩) (by assumption) ?_
      case hyg75_6 => (intro w hSw; (try dsimp only at hSw); go_simp; (try with_reducible rfl))
      try simp only [Act.put, List.setIfInBounds_toArray, List.set_cons_zero, List.set_cons_succ]
      refine regTake (i := 7) (v := ?vg75_7) rfl (by kernel_rfl) (by kernel_rfl) (by kernel_rfl) (fun _ _ _ h => h) (Or.inl ⟨by rfl, ?hyg75_7⟩) (by assumption) ?_
      case hyg75_7 => (intro w hSw; (try dsimp only at hSw); go_simp; (try with_reducible rfl))
      try simp only [Act.put, List.setIfInBounds_toArray, List.set_cons_zero, List.set_cons_succ]
      refine regTake (i := 8) (v := ?vg75_8) rfl (by kernel_rfl) (by kernel_rfl) (by kernel_rfl) (fun _ _ _ h => h) (Or.inl ⟨by rfl, ?hyg75_8⟩) (by assumption) ?_
      case hyg75_8 => (intro w hSw; (try dsimp only at hSw); go_simp; (try with_reducible rfl))
      try simp only [Act.put, List.setIfInBounds_toArray, List.set_cons_zero, List.set_cons_succ]
      refine wpAnyH_ready (rs := [9]) (by kernel_rfl) (by simp) ?_
      refine regCons rfl (fun K hK => ?_)
      go_simp
      have hc80 := implTypeSame (gndOf (gndOf t4a)) (gndOf t4a) _ _ _ _ _ (by have := HC73.out; omega) (HA73.out.below (below_trans h074 (hkg75_0))) (HA10.out.below (below_trans h074 (hkg75_0))) (fun x hx => (HR73.out x hx).below (below_trans h074 (hkg75_0))) (fun x hx => (HR10.out x hx).below (below_trans h074 (hkg75_0)))
      rw [EQ79.out] at hc80
      refine hc80.mono ?_
      rintro e yg75_1 ⟨rfl, hyg75_1⟩
      have hkg75_1 := below_trans (hkg75_0) hyg75_1
      clear hc80
      refine hK.out _ _ ?_ (fun hS2 => ?_)
      · (refine (fun hB => ⟨hB, cell_keep xa1_ hB, cell_keep xb1_ hB, cell_keep xa2_ hB, cell_keep xb2_ hB, cell_keep xa3_ hB, cell_keep xb3_ hB, cell_keep xa4_ hB, cell_keep xb4_ hB, cell_keep xa7_ hB, cell_keep xb7_ hB, cell_keep xa8_ hB, cell_keep xb8_ hB⟩ : Below ((z73.alloc (Obj.cells #[.int .i64 k73, .slice a73 n73 c73] 25))).heap.size ((z73.alloc (Obj.cells #[.int .i64 k73, .slice a73 n73 c73] 25))) _ → _) ?_; exact hkg75_1)
      clear hK K hS1
      try simp only [Act.put, List.setIfInBounds_toArray, List.set_cons_zero, List.set_cons_succ]
      refine regTake (i := 10) (v := .bool true) rfl (by kernel_rfl) (by kernel_rfl) (by kernel_rfl) (fun _ _ _ h => h) (Or.inl ⟨by rfl, ?hyg75_10⟩) (by assumption) ?_
      case hyg75_10 => (intro w hSw; (try dsimp only at hSw); go_simp; (try with_reducible rfl))
      try simp only [Act.put, List.setIfInBounds_toArray, List.set_cons_zero, List.set_cons_succ]
      refine regTake (i := 11) (v := ?vg75_11) rfl (by kernel_rfl) (by kernel_rfl) (by kernel_rfl) (fun _ _ _ h => h) (Or.inl ⟨by rfl, ?hyg75_11⟩) (by assumption) ?_
      case hyg75_11 => (intro w hSw; (try dsimp only at hSw); go_simp; (try with_reducible rfl))
      try simp only [Act.put, List.setIfInBounds_toArray, List.set_cons_zero, List.set_cons_succ]
      refine regTake (i := 12) (v := ?vg75_12) rfl (by kernel_rfl) (by kernel_rfl) (by kernel_rfl) (fun _ _ _ h => h) (Or.inl ⟨by rfl, ?hyg75_12⟩) (by assumption) ?_
      case hyg75_12 => (intro w hSw; (try dsimp only at hSw); go_simp; (try with_reducible rfl))
      try simp only [Act.put, List.setIfInBounds_toArray, List.set_cons_zero, List.set_cons_succ]
      refine regTake (i := 13) (v := ?vg75_13) rfl (by kernel_rfl) (by kernel_rfl) (by kernel_rfl) (fun _ _ _ h => h) (Or.inl ⟨by rfl, ?hyg75_13⟩) (by assumption) ?_
      case hyg75_13 => (intro w hSw; (try dsimp only at hSw); go_simp; (try with_reducible rfl))
      try simp only [Act.put, List.setIfInBounds_toArray, List.set_cons_zero, List.set_cons_succ]
      refine regTake (i := 14) (v := ?vg75_14) rfl (by kernel_rfl) (by kernel_rfl) (by kernel_rfl) (fun _ _ _ h => h) (Or.inl ⟨by rfl, ?hyg75_14⟩) (by assumption) ?_
      case hyg75_14 => (intro w hSw; (try dsimp only at hSw); go_simp; (try with_reducible rfl))
      try simp only [Act.put, List.setIfInBounds_toArray, List.set_cons_zero, List.set_cons_succ]
      refine regTake (i := 15) (v := undef) rfl (by kernel_rfl) (by kernel_rfl) (by kernel_rfl) (fun _ _ _ h => h) (Or.inr ⟨by rfl, rfl⟩) (by assumption) ?_
      try simp only [Act.put, List.setIfInBounds_toArray, List.set_cons_zero, List.set_cons_succ]
      refine regTake (i := 16) (v := undef) rfl (by kernel_rfl) (by kernel_rfl) (by kernel_rfl) (fun _ _ _ h => h) (Or.inr ⟨by rfl, rfl⟩) (by assumption) ?_
      try simp only [Act.put, List.setIfInBounds_toArray, List.set_cons_zero, List.set_cons_succ]
      refine regTake (i := 17) (v := undef) rfl (by kernel_rfl) (by kernel_rfl) (by kernel_rfl) (fun _ _ _ h => h) (Or.inr ⟨by rfl, rfl⟩) (by assumption) ?_
      try simp only [Act.put, List.setIfInBounds_toArray, List.set_cons_zero, List.set_cons_succ]
      refine regTake (i := 18) (v := undef) rfl (by kernel_rfl) (by kernel_rfl) (by kernel_rfl) (fun _ _ _ h => h) (Or.inr ⟨by rfl, rfl⟩) (by assumption) ?_
      try simp only [Act.put, List.setIfInBounds_toArray, List.set_cons_zero, List.set_cons_succ]
      refine regTake (i := 19) (v := undef) rfl (by kernel_rfl) (by kernel_rfl) (by kernel_rfl) (fun _ _ _ h => h) (Or.inr ⟨by rfl, rfl⟩) (by assumption) ?_
      try simp only [Act.put, List.setIfInBounds_toArray, List.set_cons_zero, List.set_cons_succ]
      refine regTake (i := 20) (v := undef) rfl (by kernel_rfl) (by kernel_rfl) (by kernel_rfl) (fun _ _ _ h => h) (Or.inr ⟨by rfl, rfl⟩) (by assumption) ?_
      try simp only [Act.put, List.setIfInBounds_toArray, List.set_cons_zero, List.set_cons_succ]
      refine regTake (i := 21) (v := undef) rfl (by kernel_rfl) (by kernel_rfl) (by kernel_rfl) (fun _ _ _ h => h) (Or.inr ⟨by rfl, rfl⟩) (by assumption) ?_
      try simp only [Act.put, List.setIfInBounds_toArray, List.set_cons_zero, List.set_cons_succ]
      refine regTake (i := 22) (v := .bool true) rfl (by kernel_rfl) (by kernel_rfl) (by kernel_rfl) (fun _ _ _ h => h) (Or.inl ⟨by rfl, ?hyg75_22⟩) (by assumption) ?_
      case hyg75_22 => (intro w hSw; (try dsimp only at hSw); go_simp; (try with_reducible rfl))
      try simp only [Act.put, List.setIfInBounds_toArray, List.set_cons_zero, List.set_cons_succ]
      refine regTake (i := 23) (v := .bool true) rfl (by kernel_rfl) (by kernel_rfl) (by kernel_rfl) (fun _ _ _ h => h) (Or.inl ⟨by rfl, ?hyg75_23⟩) (by assumption) ?_
      case hyg75_23 => (intro w hSw; (try dsimp only at hSw); go_simp; (try with_reducible rfl))
      try simp only [Act.put, List.setIfInBounds_toArray, List.set_cons_zero, List.set_cons_succ]
      refine regTake (i := 24) (v := ?vg75_24) rfl (by kernel_rfl) (by kernel_rfl) (by kernel_rfl) (fun _ _ _ h => h) (Or.inl ⟨by rfl, ?hyg75_24⟩) (by assumption) ?_
      case hyg75_24 => (intro w hSw; (try dsimp only at hSw); go_simp; (try with_reducible rfl))
      try simp only [Act.put, List.setIfInBounds_toArray, List.set_cons_zero, List.set_cons_succ]
      refine wpAnyH_done (by kernel_rfl) ?_ _
      have hlg75_ := below_trans h074 hkg75_1
      replace xa1_ := cell_keep xa1_ hkg75_1
      replace xb1_ := cell_keep xb1_ hkg75_1
      replace xa2_ := cell_keep xa2_ hkg75_1
      replace xb2_ := cell_keep xb2_ hkg75_1
      replace xa3_ := cell_keep xa3_ hkg75_1
      replace xb3_ := cell_keep xb3_ hkg75_1
      replace xa4_ := cell_keep xa4_ hkg75_1
      replace xb4_ := cell_keep xb4_ hkg75_1
      replace xa7_ := cell_keep xa7_ hkg75_1
      replace xb7_ := cell_keep xb7_ hkg75_1
      replace xa8_ := cell_keep xa8_ hkg75_1
      replace xb8_ := cell_keep xb8_ hkg75_1
      go_wp2_with fail
      go_ret
      exact ⟨rfl, below_trans HBL.out hlg75_⟩
  · have EQ7 := hid hq7
    clear hq7
    go_wp2_with fail
    have hc83 := implGroundOf t4a _ _ _ (HA4a.out.below h05) (by have := HC4a.out; omega)
    rw [EQ7.out] at hc83
    refine hc83.mono ?_
    rintro e z84 ⟨v84, f84, rfl, ht84, hf84, hz84⟩
    obtain ⟨k84, n84, a84, c84, rfl⟩ := ht84.agg
    clear hc83
    have hba85 : Below z84.heap.size z84 (z84.alloc (Obj.cells #[.int .i64 k84, .slice a84 n84 c84] 25)) := ((Below.refl _ _).alloc (Nat.le_refl _) _)
    have hbb85 := below_trans hz84 hba85
    have hbc85 := below_trans h05 hbb85
    replace HA4a := hid (HA4a.out.below hbc85)
    replace HR4a := hid (fun x hx => (HR4a.out x hx).below hbc85)
    replace HBL := hid (below_trans HBL.out hbc85)
    replace xa1_ := cell_keep xa1_ hbb85
    replace xb1_ := cell_keep xb1_ hbb85
    have hl85 := lay1 z84 (Obj.cells #[.int .i64 k84, .slice a84 n84 c84] 25)
    have HA84 := hid (ht84.below hba85)
    have HR84 := hid (show ∀ x ∈ f84, Raw (z84.alloc (Obj.cells #[.int .i64 k84, .slice a84 n84 c84] 25)) x from fun x hx => Raw.below (Fresh.raw ht84 hf84 x hx) hba85)
    have HC84 := hid (show ((gndOf t4a) : Ty).cnt ≤ 100 from (Nat.le_trans (gndOf_cnt t4a) HC4a.out))
    have xa9_ : ((z84.alloc (Obj.cells #[.int .i64 k84, .slice a84 n84 c84] 25))).cell? ⟨z84.heap.size, 0, none⟩ = some (.int .i64 k84) := by rw [cell_of_block (hl85)]; rfl
    have xb9_ : ((z84.alloc (Obj.cells #[.int .i64 k84, .slice a84 n84 c84] 25))).cell? ⟨z84.heap.size, 1, none⟩ = some (.slice a84 n84 c84) := by rw [cell_of_block (hl85)]; rfl
    have h085 := Below.refl ((z84.alloc (Obj.cells #[.int .i64 k84, .slice a84 n84 c84] 25))).heap.size (z84.alloc (Obj.cells #[.int .i64 k84, .slice a84 n84 c84] 25))
    clear ht84
    clear hba85 hbb85 hbc85 hl85 hz84
    go_wp2_with fail
    have hc87 := specGroundOf t4a _ _ _ (HA4a.out.below h085) (by have := HC4a.out; omega)
    rw [EQ7.out] at hc87
    refine hc87.mono ?_
    rintro e z88 ⟨v88, f88, rfl, ht88, hf88, hz88⟩
    obtain ⟨k88, n88, a88, c88, rfl⟩ := ht88.agg
    clear hc87
    have hba89 : Below z88.heap.size z88 (z88.alloc (Obj.cells #[.int .i64 k88, .slice a88 n88 c88] 25)) := ((Below.refl _ _).alloc (Nat.le_refl _) _)
    have hbb89 := below_trans hz88 hba89
    have hbc89 := below_trans h085 hbb89
    replace HA4a := hid (HA4a.out.below hbc89)
    replace HR4a := hid (fun x hx => (HR4a.out x hx).below hbc89)
    replace HA84 := hid (HA84.out.below hbc89)
    replace HR84 := hid (fun x hx => (HR84.out x hx).below hbc89)
    replace HBL := hid (below_trans HBL.out hbc89)
    replace xa1_ := cell_keep xa1_ hbb89
    replace xb1_ := cell_keep xb1_ hbb89
    replace xa9_ := cell_keep xa9_ hbb89
    replace xb9_ := cell_keep xb9_ hbb89
    have hl89 := lay1 z88 (Obj.cells #[.int .i64 k88, .slice a88 n88 c88] 25)
    have HA88 := hid (ht88.below hba89)
    have HR88 := hid (show ∀ x ∈ f88, Raw (z88.alloc (Obj.cells #[.int .i64 k88, .slice a88 n88 c88] 25)) x from fun x hx => Raw.below (Fresh.raw ht88 hf88 x hx) hba89)
    have HC88 := hid (show ((gndOf t4a) : Ty).cnt ≤ 100 from (Nat.le_trans (gndOf_cnt t4a) HC4a.out))
    have xa10_ : ((z88.alloc (Obj.cells #[.int .i64 k88, .slice a88 n88 c88] 25))).cell? ⟨z88.heap.size, 0, none⟩ = some (.int .i64 k88) := by rw [cell_of_block (hl89)]; rfl
    have xb10_ : ((z88.alloc (Obj.cells #[.int .i64 k88, .slice a88 n88 c88] 25))).cell? ⟨z88.heap.size, 1, none⟩ = some (.slice a88 n88 c88) := by rw [cell_of_block (hl89)]; rfl
    have h089 := Below.refl ((z88.alloc (Obj.cells #[.int .i64 k88, .slice a88 n88 c88] 25))).heap.size (z88.alloc (Obj.cells #[.int .i64 k88, .slice a88 n88 c88] 25))
    clear ht88
    clear hba89 hbb89 hbc89 hl89 hz88
    have EQ91 := hid (show tyEq (gndOf t4a) (gndOf t4a) = true from tyEq_refl (gndOf t4a))
    go_wp2_with fail
    have hc92 := implTypeSame (gndOf t4a) (gndOf t4a) _ _ _ _ _ (by have := HC84.out; omega) (HA84.out.below h089) (HA88.out.below h089) (fun x hx => (HR84.out x hx).below h089) (fun x hx => (HR88.out x hx).below h089)
    rw [EQ91.out] at hc92
    refine hc92.mono ?_
    rintro e z93 ⟨rfl, hz93⟩
    have hq93 := below_trans h089 hz93
    replace xa1_ := cell_keep xa1_ hz93
    replace xb1_ := cell_keep xb1_ hz93
    replace xa9_ := cell_keep xa9_ hz93
    replace xb9_ := cell_keep xb9_ hz93
    replace xa10_ := cell_keep xa10_ hz93
    replace xb10_ := cell_keep xb10_ hz93
    clear hc92 hz93
    go_wp2_with fail
    have hc95 := implTypeSame (gndOf t4a) (gndOf t4a) _ _ _ _ _ (by have := HC84.out; omega) (HA84.out.below hq93) (HA88.out.below hq93) (fun x hx => (HR84.out x hx).below hq93) (fun x hx => (HR88.out x hx).below hq93)
    rw [EQ91.out] at hc95
    refine hc95.mono ?_
    rintro e z96 ⟨rfl, hz96⟩
    have hq96 := below_trans hq93 hz96
    replace xa1_ := cell_keep xa1_ hz96
    replace xb1_ := cell_keep xb1_ hz96
    replace xa9_ := cell_keep xa9_ hz96
    replace xb9_ := cell_keep xb9_ hz96
    replace xa10_ := cell_keep xa10_ hz96
    replace xb10_ := cell_keep xb10_ hz96
    clear hc95 hz96
    go_wp2_with fail
    go_ret
    exact ⟨rfl, below_trans HBL.out hq96⟩
end Go.Proofs.Ytelbpgdlcnnabaa
