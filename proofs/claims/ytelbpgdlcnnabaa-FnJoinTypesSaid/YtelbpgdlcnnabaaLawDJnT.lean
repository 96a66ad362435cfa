/- The law FnJoinTypes: it returns true and writes nothing that was there. -/
import Derived.Test.YtelbpgdlcnnabaaDr8
import Derived.Test.YtelbpgdlcnnabaaDlP
import Derived.Test.YtelbpgdlcnnabaaReg
import Derived.Test.YtelbpgdlcnnabaaRaw
import Derived.Test.YtelbpgdlcnnabaaDJn
import Derived.Test.YtelbpgdlcnnabaaMeetI
import Derived.Test.YtelbpgdlcnnabaaJoinT
import Derived.Test.YtelbpgdlcnnabaaRel
import Derived.Test.YtelbpgdlcnnabaaMjP
import Derived.Deep.RegionHeld3
namespace Go.Proofs.Ytelbpgdlcnnabaa
open Go.RowKit

/-- Boxes that have just been laid. -/
theorem lay1 (w : World) (o1 : Obj) : (w.alloc o1).heap[w.heap.size]? = some o1 := alloc_new _ _
theorem lay2 (w : World) (o1 o2 : Obj) : ((w.alloc o1).alloc o2).heap[w.heap.size]? = some o1 ∧ ((w.alloc o1).alloc o2).heap[w.heap.size + 1]? = some o2 := by
  have h2 := alloc_new (w.alloc o1) o2
  have hs : (w.alloc o1).heap.size = w.heap.size + 1 := by simp
  rw [hs] at h2
  exact ⟨(Below.heap_alloc _ _ _ (by simp)).trans (alloc_new _ _), h2⟩
theorem lay3 (w : World) (o1 o2 o3 : Obj) : (((w.alloc o1).alloc o2).alloc o3).heap[w.heap.size]? = some o1 ∧ (((w.alloc o1).alloc o2).alloc o3).heap[w.heap.size + 1]? = some o2 ∧ (((w.alloc o1).alloc o2).alloc o3).heap[w.heap.size + 1 + 1]? = some o3 := by
  obtain ⟨a, b⟩ := lay2 w o1 o2
  have h3 := alloc_new ((w.alloc o1).alloc o2) o3
  have hs : ((w.alloc o1).alloc o2).heap.size = w.heap.size + 1 + 1 := by simp
  rw [hs] at h3
  exact ⟨(Below.heap_alloc _ _ _ (by simp; omega)).trans a, (Below.heap_alloc _ _ _ (by simp)).trans b, h3⟩


set_option linter.unusedSimpArgs false in
set_option linter.unusedVariables false in
set_option maxRecDepth 100000 in
set_option maxHeartbeats 16000000 in
theorem lawDJnT (a00 : Option Addr) (n00 cap00 : Nat) (a01 : Option Addr) (n01 cap01 : Nat) (w : World) (hB0 : BytA w a00 n00) (hn0 : n00 ≤ cap00) (hm0 : cap00 ≤ maxLen) (hB1 : BytA w a01 n01) (hn1 : n01 ≤ cap01) (hm1 : cap01 ≤ maxLen) :
    Calls Try.prog 5 #[.slice a00 n00 cap00, .slice a01 n01 cap01] w fun e w' => e = .returned (.bool true) ∧ Below w.heap.size w w' := by
  by_cases hl0 : (n00 : Int) > 1048576
  · clear hB0 hB1
    go_enter Try.func5, Try.ntmps5
    go_wp2_with fail
    go_ret
    exact ⟨rfl, Below.refl _ _⟩
  by_cases hl1 : (n01 : Int) > 1048576
  · clear hB0 hB1
    go_enter Try.func5, Try.ntmps5
    go_wp2_with fail
    go_ret
    exact ⟨rfl, Below.refl _ _⟩
  have HBY0 := hid hB0
  have HNN0 := hid hn0
  have HMM0 := hid hm0
  have HBY1 := hid hB1
  have HNN1 := hid hn1
  have HMM1 := hid hm1
  clear hB0 hn0 hm0 hB1 hn1 hm1
  go_enter Try.func5, Try.ntmps5
  go_wp2_with fail
  refine (drawJoin_any a00 n00 cap00 _ (HBY0.out.below (Below.refl _ _)) HNN0.out HMM0.out).mono ?_
  rintro e z4 ⟨t4a, t4b, v4a, v4b, f4a, f4b, rfl, hs4, ht4a, ht4b, hg4a, hg4b, hz4⟩
  obtain ⟨k4a, n4a, a4a, c4a, rfl⟩ := ht4a.agg
  obtain ⟨k4b, n4b, a4b, c4b, rfl⟩ := ht4b.agg
  have hba5 : Below z4.heap.size z4 ((z4.alloc (Obj.cells #[.int .i64 k4a, .slice a4a n4a c4a] 25)).alloc (Obj.cells #[.int .i64 k4b, .slice a4b n4b c4b] 25)) := (((Below.refl _ _).alloc (Nat.le_refl _) _).alloc (by simp) _)
  have hbb5 := below_trans hz4 hba5
  have hbc5 := hbb5
  have HBL := hid hbc5
  have HA4a := hid (ht4a.below hba5)
  have HR4a := hid (show ∀ x ∈ f4a, Raw ((z4.alloc (Obj.cells #[.int .i64 k4a, .slice a4a n4a c4a] 25)).alloc (Obj.cells #[.int .i64 k4b, .slice a4b n4b c4b] 25)) x from fun x hx => Raw.below ⟨ht4a.laid x hx, (hg4a x hx).2⟩ hba5)
  have HC4a := hid (show (t4a).cnt ≤ 100 from hs4.1)
  have HA4b := hid (ht4b.below hba5)
  have HR4b := hid (show ∀ x ∈ f4b, Raw ((z4.alloc (Obj.cells #[.int .i64 k4a, .slice a4a n4a c4a] 25)).alloc (Obj.cells #[.int .i64 k4b, .slice a4b n4b c4b] 25)) x from fun x hx => Raw.below ⟨ht4b.laid x hx, (hg4b x hx).2⟩ hba5)
  have HC4b := hid (show (t4b).cnt ≤ 100 from hs4.2)
  have hl5 := lay2 z4 (Obj.cells #[.int .i64 k4a, .slice a4a n4a c4a] 25) (Obj.cells #[.int .i64 k4b, .slice a4b n4b c4b] 25)
  have xa4a : (((z4.alloc (Obj.cells #[.int .i64 k4a, .slice a4a n4a c4a] 25)).alloc (Obj.cells #[.int .i64 k4b, .slice a4b n4b c4b] 25))).cell? ⟨z4.heap.size, 0, none⟩ = some (.int .i64 k4a) := by rw [cell_of_block hl5.1]; rfl
  have xb4a : (((z4.alloc (Obj.cells #[.int .i64 k4a, .slice a4a n4a c4a] 25)).alloc (Obj.cells #[.int .i64 k4b, .slice a4b n4b c4b] 25))).cell? ⟨z4.heap.size, 1, none⟩ = some (.slice a4a n4a c4a) := by rw [cell_of_block hl5.1]; rfl
  have xa4b : (((z4.alloc (Obj.cells #[.int .i64 k4a, .slice a4a n4a c4a] 25)).alloc (Obj.cells #[.int .i64 k4b, .slice a4b n4b c4b] 25))).cell? ⟨z4.heap.size + 1, 0, none⟩ = some (.int .i64 k4b) := by rw [cell_of_block hl5.2]; rfl
  have xb4b : (((z4.alloc (Obj.cells #[.int .i64 k4a, .slice a4a n4a c4a] 25)).alloc (Obj.cells #[.int .i64 k4b, .slice a4b n4b c4b] 25))).cell? ⟨z4.heap.size + 1, 1, none⟩ = some (.slice a4b n4b c4b) := by rw [cell_of_block hl5.2]; rfl
  have h05 := Below.refl (((z4.alloc (Obj.cells #[.int .i64 k4a, .slice a4a n4a c4a] 25)).alloc (Obj.cells #[.int .i64 k4b, .slice a4b n4b c4b] 25))).heap.size ((z4.alloc (Obj.cells #[.int .i64 k4a, .slice a4a n4a c4a] 25)).alloc (Obj.cells #[.int .i64 k4b, .slice a4b n4b c4b] 25))
  clear ht4a
  clear ht4b
  clear hba5 hbb5 hbc5 hl5 hz4
  rcases Bool.eq_false_or_eq_true ((vld t4a && vld t4b)) with hq7 | hq7
  · have EQ7 := hid hq7
    clear hq7
    go_wp2_with fail
    have hc9 := implJoinTypes t4a t4b _ _ _ _ _ (HA4a.out.below h05) (HA4b.out.below h05) (by have := HC4a.out; omega) (by have := HC4b.out; omega)
    rw [EQ7.out] at hc9
    refine hc9.mono ?_
    rintro e z10 ⟨v10, f10, rfl, ht10, hf10, hz10⟩
    obtain ⟨k10, n10, a10, c10, rfl⟩ := ht10.agg
    clear hc9
    have hba11 : Below z10.heap.size z10 (z10.alloc (Obj.cells #[.int .i64 k10, .slice a10 n10 c10] 25)) := ((Below.refl _ _).alloc (Nat.le_refl _) _)
    have hbb11 := below_trans hz10 hba11
    have hbc11 := below_trans h05 hbb11
    replace HA4a := hid (HA4a.out.below hbc11)
    replace HR4a := hid (fun x hx => (HR4a.out x hx).below hbc11)
    replace HA4b := hid (HA4b.out.below hbc11)
    replace HR4b := hid (fun x hx => (HR4b.out x hx).below hbc11)
    replace HBL := hid (below_trans HBL.out hbc11)
    replace xa4a := cell_keep xa4a hbb11
    replace xb4a := cell_keep xb4a hbb11
    replace xa4b := cell_keep xa4b hbb11
    replace xb4b := cell_keep xb4b hbb11
    have HA10 := hid (ht10.below hba11)
    have HR10 := hid (show ∀ x ∈ f10, Raw (z10.alloc (Obj.cells #[.int .i64 k10, .slice a10 n10 c10] 25)) x from fun x hx => Raw.below (Fresh.raw ht10 hf10 x hx) hba11)
    have HC10 := hid (show (joinOf t4a t4b).cnt ≤ 200 from (Nat.le_trans (joinOf_cnt t4a t4b) (by have := HC4a.out; have := HC4b.out; omega)))
    have hl11 := lay1 z10 (Obj.cells #[.int .i64 k10, .slice a10 n10 c10] 25)
    have xa10 : ((z10.alloc (Obj.cells #[.int .i64 k10, .slice a10 n10 c10] 25))).cell? ⟨z10.heap.size, 0, none⟩ = some (.int .i64 k10) := by rw [cell_of_block hl11]; rfl
    have xb10 : ((z10.alloc (Obj.cells #[.int .i64 k10, .slice a10 n10 c10] 25))).cell? ⟨z10.heap.size, 1, none⟩ = some (.slice a10 n10 c10) := by rw [cell_of_block hl11]; rfl
    have h011 := Below.refl ((z10.alloc (Obj.cells #[.int .i64 k10, .slice a10 n10 c10] 25))).heap.size (z10.alloc (Obj.cells #[.int .i64 k10, .slice a10 n10 c10] 25))
    clear ht10
    clear hba11 hbb11 hbc11 hl11 hz10
    go_wp2_with fail
    have hc13 := specJoinTypes t4a t4b _ _ _ _ _ (HA4a.out.below h011) (HA4b.out.below h011) (by have := HC4a.out; omega) (by have := HC4b.out; omega)
    rw [EQ7.out] at hc13
    refine hc13.mono ?_
    rintro e z14 ⟨v14, f14, rfl, ht14, hf14, hz14⟩
    obtain ⟨k14, n14, a14, c14, rfl⟩ := ht14.agg
    clear hc13
    have hba15 : Below z14.heap.size z14 (z14.alloc (Obj.cells #[.int .i64 k14, .slice a14 n14 c14] 25)) := ((Below.refl _ _).alloc (Nat.le_refl _) _)
    have hbb15 := below_trans hz14 hba15
    have hbc15 := below_trans h011 hbb15
    replace HA4a := hid (HA4a.out.below hbc15)
    replace HR4a := hid (fun x hx => (HR4a.out x hx).below hbc15)
    replace HA4b := hid (HA4b.out.below hbc15)
    replace HR4b := hid (fun x hx => (HR4b.out x hx).below hbc15)
    replace HA10 := hid (HA10.out.below hbc15)
    replace HR10 := hid (fun x hx => (HR10.out x hx).below hbc15)
    replace HBL := hid (below_trans HBL.out hbc15)
    replace xa4a := cell_keep xa4a hbb15
    replace xb4a := cell_keep xb4a hbb15
    replace xa4b := cell_keep xa4b hbb15
    replace xb4b := cell_keep xb4b hbb15
    replace xa10 := cell_keep xa10 hbb15
    replace xb10 := cell_keep xb10 hbb15
    have HA14 := hid (ht14.below hba15)
    have HR14 := hid (show ∀ x ∈ f14, Raw (z14.alloc (Obj.cells #[.int .i64 k14, .slice a14 n14 c14] 25)) x from fun x hx => Raw.below (Fresh.raw ht14 hf14 x hx) hba15)
    have HC14 := hid (show (joinOf t4a t4b).cnt ≤ 200 from (Nat.le_trans (joinOf_cnt t4a t4b) (by have := HC4a.out; have := HC4b.out; omega)))
    have hl15 := lay1 z14 (Obj.cells #[.int .i64 k14, .slice a14 n14 c14] 25)
    have xa14 : ((z14.alloc (Obj.cells #[.int .i64 k14, .slice a14 n14 c14] 25))).cell? ⟨z14.heap.size, 0, none⟩ = some (.int .i64 k14) := by rw [cell_of_block hl15]; rfl
    have xb14 : ((z14.alloc (Obj.cells #[.int .i64 k14, .slice a14 n14 c14] 25))).cell? ⟨z14.heap.size, 1, none⟩ = some (.slice a14 n14 c14) := by rw [cell_of_block hl15]; rfl
    have h015 := Below.refl ((z14.alloc (Obj.cells #[.int .i64 k14, .slice a14 n14 c14] 25))).heap.size (z14.alloc (Obj.cells #[.int .i64 k14, .slice a14 n14 c14] 25))
    clear ht14
    clear hba15 hbb15 hbc15 hl15 hz14
    have EQ17 := hid (show tyEq (joinOf t4a t4b) (joinOf t4a t4b) = true from tyEq_refl (joinOf t4a t4b))
    go_wp2_with fail
    have hc18 := implTypeSame (joinOf t4a t4b) (joinOf t4a t4b) _ _ _ _ _ (by have := HC10.out; omega) (HA10.out.below h015) (HA14.out.below h015) (fun x hx => (HR10.out x hx).below h015) (fun x hx => (HR14.out x hx).below h015)
    rw [EQ17.out] at hc18
    refine hc18.mono ?_
    rintro e z19 ⟨rfl, hz19⟩
    have hq19 := below_trans h015 hz19
    replace xa4a := cell_keep xa4a hz19
    replace xb4a := cell_keep xb4a hz19
    replace xa4b := cell_keep xa4b hz19
    replace xb4b := cell_keep xb4b hz19
    replace xa10 := cell_keep xa10 hz19
    replace xb10 := cell_keep xb10 hz19
    replace xa14 := cell_keep xa14 hz19
    replace xb14 := cell_keep xb14 hz19
    clear hc18 hz19
    go_wp2_with fail
    refine (drawChain_any a01 n01 cap01 _ (HBY1.out.below (below_trans HBL.out hq19)) HNN1.out HMM1.out).mono ?_
    rintro e z21 ⟨t21a, t21b, t21c, v21a, v21b, v21c, f21a, f21b, f21c, rfl, ht21a, ht21b, ht21c, ⟨hs21, hg21a, hg21b, hs21b⟩, hz21⟩
    obtain ⟨k21a, n21a, a21a, c21a, rfl⟩ := ht21a.agg
    obtain ⟨k21b, n21b, a21b, c21b, rfl⟩ := ht21b.agg
    obtain ⟨k21c, n21c, a21c, c21c, rfl⟩ := ht21c.agg
    have hba22 : Below z21.heap.size z21 (((z21.alloc (Obj.cells #[.int .i64 k21a, .slice a21a n21a c21a] 25)).alloc (Obj.cells #[.int .i64 k21b, .slice a21b n21b c21b] 25)).alloc (Obj.cells #[.int .i64 k21c, .slice a21c n21c c21c] 25)) := ((((Below.refl _ _).alloc (Nat.le_refl _) _).alloc (by simp) _).alloc (by simp; omega) _)
    have hbb22 := below_trans hz21 hba22
    have hbc22 := below_trans hq19 hbb22
    replace HA4a := hid (HA4a.out.below hbc22)
    replace HR4a := hid (fun x hx => (HR4a.out x hx).below hbc22)
    replace HA4b := hid (HA4b.out.below hbc22)
    replace HR4b := hid (fun x hx => (HR4b.out x hx).below hbc22)
    replace HA10 := hid (HA10.out.below hbc22)
    replace HR10 := hid (fun x hx => (HR10.out x hx).below hbc22)
    replace HA14 := hid (HA14.out.below hbc22)
    replace HR14 := hid (fun x hx => (HR14.out x hx).below hbc22)
    replace HBL := hid (below_trans HBL.out hbc22)
    replace xa4a := cell_keep xa4a hbb22
    replace xb4a := cell_keep xb4a hbb22
    replace xa4b := cell_keep xa4b hbb22
    replace xb4b := cell_keep xb4b hbb22
    replace xa10 := cell_keep xa10 hbb22
    replace xb10 := cell_keep xb10 hbb22
    replace xa14 := cell_keep xa14 hbb22
    replace xb14 := cell_keep xb14 hbb22
    have HA21a := hid (ht21a.below hba22)
    have HR21a := hid (show ∀ x ∈ f21a, Raw (((z21.alloc (Obj.cells #[.int .i64 k21a, .slice a21a n21a c21a] 25)).alloc (Obj.cells #[.int .i64 k21b, .slice a21b n21b c21b] 25)).alloc (Obj.cells #[.int .i64 k21c, .slice a21c n21c c21c] 25)) x from fun x hx => Raw.below ⟨ht21a.laid x hx, hg21a x hx⟩ hba22)
    have HC21a := hid (show (t21a).cnt ≤ 100 from hs21)
    have HA21b := hid (ht21b.below hba22)
    have HR21b := hid (show ∀ x ∈ f21b, Raw (((z21.alloc (Obj.cells #[.int .i64 k21a, .slice a21a n21a c21a] 25)).alloc (Obj.cells #[.int .i64 k21b, .slice a21b n21b c21b] 25)).alloc (Obj.cells #[.int .i64 k21c, .slice a21c n21c c21c] 25)) x from fun x hx => Raw.below ⟨ht21b.laid x hx, hg21b x hx⟩ hba22)
    have HC21b := hid (show (t21b).cnt ≤ 100 from hs21b)
    have HA21c := hid (ht21c.below hba22)
    have hl22 := lay3 z21 (Obj.cells #[.int .i64 k21a, .slice a21a n21a c21a] 25) (Obj.cells #[.int .i64 k21b, .slice a21b n21b c21b] 25) (Obj.cells #[.int .i64 k21c, .slice a21c n21c c21c] 25)
    have xa21a : ((((z21.alloc (Obj.cells #[.int .i64 k21a, .slice a21a n21a c21a] 25)).alloc (Obj.cells #[.int .i64 k21b, .slice a21b n21b c21b] 25)).alloc (Obj.cells #[.int .i64 k21c, .slice a21c n21c c21c] 25))).cell? ⟨z21.heap.size, 0, none⟩ = some (.int .i64 k21a) := by rw [cell_of_block hl22.1]; rfl
    have xb21a : ((((z21.alloc (Obj.cells #[.int .i64 k21a, .slice a21a n21a c21a] 25)).alloc (Obj.cells #[.int .i64 k21b, .slice a21b n21b c21b] 25)).alloc (Obj.cells #[.int .i64 k21c, .slice a21c n21c c21c] 25))).cell? ⟨z21.heap.size, 1, none⟩ = some (.slice a21a n21a c21a) := by rw [cell_of_block hl22.1]; rfl
    have xa21b : ((((z21.alloc (Obj.cells #[.int .i64 k21a, .slice a21a n21a c21a] 25)).alloc (Obj.cells #[.int .i64 k21b, .slice a21b n21b c21b] 25)).alloc (Obj.cells #[.int .i64 k21c, .slice a21c n21c c21c] 25))).cell? ⟨z21.heap.size + 1, 0, none⟩ = some (.int .i64 k21b) := by rw [cell_of_block hl22.2.1]; rfl
    have xb21b : ((((z21.alloc (Obj.cells #[.int .i64 k21a, .slice a21a n21a c21a] 25)).alloc (Obj.cells #[.int .i64 k21b, .slice a21b n21b c21b] 25)).alloc (Obj.cells #[.int .i64 k21c, .slice a21c n21c c21c] 25))).cell? ⟨z21.heap.size + 1, 1, none⟩ = some (.slice a21b n21b c21b) := by rw [cell_of_block hl22.2.1]; rfl
    have xa21c : ((((z21.alloc (Obj.cells #[.int .i64 k21a, .slice a21a n21a c21a] 25)).alloc (Obj.cells #[.int .i64 k21b, .slice a21b n21b c21b] 25)).alloc (Obj.cells #[.int .i64 k21c, .slice a21c n21c c21c] 25))).cell? ⟨z21.heap.size + 1 + 1, 0, none⟩ = some (.int .i64 k21c) := by rw [cell_of_block hl22.2.2]; rfl
    have xb21c : ((((z21.alloc (Obj.cells #[.int .i64 k21a, .slice a21a n21a c21a] 25)).alloc (Obj.cells #[.int .i64 k21b, .slice a21b n21b c21b] 25)).alloc (Obj.cells #[.int .i64 k21c, .slice a21c n21c c21c] 25))).cell? ⟨z21.heap.size + 1 + 1, 1, none⟩ = some (.slice a21c n21c c21c) := by rw [cell_of_block hl22.2.2]; rfl
    have h022 := Below.refl ((((z21.alloc (Obj.cells #[.int .i64 k21a, .slice a21a n21a c21a] 25)).alloc (Obj.cells #[.int .i64 k21b, .slice a21b n21b c21b] 25)).alloc (Obj.cells #[.int .i64 k21c, .slice a21c n21c c21c] 25))).heap.size (((z21.alloc (Obj.cells #[.int .i64 k21a, .slice a21a n21a c21a] 25)).alloc (Obj.cells #[.int .i64 k21b, .slice a21b n21b c21b] 25)).alloc (Obj.cells #[.int .i64 k21c, .slice a21c n21c c21c] 25))
    clear ht21a
    clear ht21b
    clear ht21c
    clear hba22 hbb22 hbc22 hl22 hz21
    rcases Bool.eq_false_or_eq_true (precOf t4a t21c) with hq24 | hq24
    · have EQ24 := hid hq24
      clear hq24
      rcases Bool.eq_false_or_eq_true (precOf t4b t21c) with hq28 | hq28
      · have EQ28 := hid hq28
        clear hq28
        go_wp2_with fail
        have hc30 := implPrecise t4a t21c _ _ _ _ _ (HA4a.out.below h022) (HA21c.out.below h022)
        rw [EQ24.out] at hc30
        refine hc30.mono ?_
        rintro e z31 ⟨rfl, hz31⟩
        have hq31 := below_trans h022 hz31
        replace xa4a := cell_keep xa4a hz31
        replace xb4a := cell_keep xb4a hz31
        replace xa4b := cell_keep xa4b hz31
        replace xb4b := cell_keep xb4b hz31
        replace xa10 := cell_keep xa10 hz31
        replace xb10 := cell_keep xb10 hz31
        replace xa14 := cell_keep xa14 hz31
        replace xb14 := cell_keep xb14 hz31
        replace xa21a := cell_keep xa21a hz31
        replace xb21a := cell_keep xb21a hz31
        replace xa21b := cell_keep xa21b hz31
        replace xb21b := cell_keep xb21b hz31
        replace xa21c := cell_keep xa21c hz31
        replace xb21c := cell_keep xb21c hz31
        clear hc30 hz31
        go_wp2_with fail
        have hc32 := implPrecise t4b t21c _ _ _ _ _ (HA4b.out.below hq31) (HA21c.out.below hq31)
        rw [EQ28.out] at hc32
        refine hc32.mono ?_
        rintro e z33 ⟨rfl, hz33⟩
        have hq33 := below_trans hq31 hz33
        replace xa4a := cell_keep xa4a hz33
        replace xb4a := cell_keep xb4a hz33
        replace xa4b := cell_keep xa4b hz33
        replace xb4b := cell_keep xb4b hz33
        replace xa10 := cell_keep xa10 hz33
        replace xb10 := cell_keep xb10 hz33
        replace xa14 := cell_keep xa14 hz33
        replace xb14 := cell_keep xb14 hz33
        replace xa21a := cell_keep xa21a hz33
        replace xb21a := cell_keep xb21a hz33
        replace xa21b := cell_keep xa21b hz33
        replace xb21b := cell_keep xb21b hz33
        replace xa21c := cell_keep xa21c hz33
        replace xb21c := cell_keep xb21c hz33
        clear hc32 hz33
        have EQ35 := hid (show (vld t4b && vld t4a) = true from (by rw [Bool.and_comm]; exact EQ7.out))
        go_wp2_with fail
        have hc36 := implJoinTypes t4b t4a _ _ _ _ _ (HA4b.out.below hq33) (HA4a.out.below hq33) (by have := HC4b.out; omega) (by have := HC4a.out; omega)
        rw [EQ35.out] at hc36
        refine hc36.mono ?_
        rintro e z37 ⟨v37, f37, rfl, ht37, hf37, hz37⟩
        obtain ⟨k37, n37, a37, c37, rfl⟩ := ht37.agg
        clear hc36
        have hba38 : Below z37.heap.size z37 (z37.alloc (Obj.cells #[.int .i64 k37, .slice a37 n37 c37] 25)) := ((Below.refl _ _).alloc (Nat.le_refl _) _)
        have hbb38 := below_trans hz37 hba38
        have hbc38 := below_trans hq33 hbb38
        replace HA4a := hid (HA4a.out.below hbc38)
        replace HR4a := hid (fun x hx => (HR4a.out x hx).below hbc38)
        replace HA4b := hid (HA4b.out.below hbc38)
        replace HR4b := hid (fun x hx => (HR4b.out x hx).below hbc38)
        replace HA10 := hid (HA10.out.below hbc38)
        replace HR10 := hid (fun x hx => (HR10.out x hx).below hbc38)
        replace HA14 := hid (HA14.out.below hbc38)
        replace HR14 := hid (fun x hx => (HR14.out x hx).below hbc38)
        replace HA21a := hid (HA21a.out.below hbc38)
        replace HR21a := hid (fun x hx => (HR21a.out x hx).below hbc38)
        replace HA21b := hid (HA21b.out.below hbc38)
        replace HR21b := hid (fun x hx => (HR21b.out x hx).below hbc38)
        replace HA21c := hid (HA21c.out.below hbc38)
        replace HBL := hid (below_trans HBL.out hbc38)
        replace xa4a := cell_keep xa4a hbb38
        replace xb4a := cell_keep xb4a hbb38
        replace xa4b := cell_keep xa4b hbb38
        replace xb4b := cell_keep xb4b hbb38
        replace xa10 := cell_keep xa10 hbb38
        replace xb10 := cell_keep xb10 hbb38
        replace xa14 := cell_keep xa14 hbb38
        replace xb14 := cell_keep xb14 hbb38
        replace xa21a := cell_keep xa21a hbb38
        replace xb21a := cell_keep xb21a hbb38
        replace xa21b := cell_keep xa21b hbb38
        replace xb21b := cell_keep xb21b hbb38
        replace xa21c := cell_keep xa21c hbb38
        replace xb21c := cell_keep xb21c hbb38
        have HA37 := hid (ht37.below hba38)
        have HR37 := hid (show ∀ x ∈ f37, Raw (z37.alloc (Obj.cells #[.int .i64 k37, .slice a37 n37 c37] 25)) x from fun x hx => Raw.below (Fresh.raw ht37 hf37 x hx) hba38)
        have HC37 := hid (show (joinOf t4b t4a).cnt ≤ 200 from (Nat.le_trans (joinOf_cnt t4b t4a) (by have := HC4b.out; have := HC4a.out; omega)))
        have hl38 := lay1 z37 (Obj.cells #[.int .i64 k37, .slice a37 n37 c37] 25)
        have xa37 : ((z37.alloc (Obj.cells #[.int .i64 k37, .slice a37 n37 c37] 25))).cell? ⟨z37.heap.size, 0, none⟩ = some (.int .i64 k37) := by rw [cell_of_block hl38]; rfl
        have xb37 : ((z37.alloc (Obj.cells #[.int .i64 k37, .slice a37 n37 c37] 25))).cell? ⟨z37.heap.size, 1, none⟩ = some (.slice a37 n37 c37) := by rw [cell_of_block hl38]; rfl
        have h038 := Below.refl ((z37.alloc (Obj.cells #[.int .i64 k37, .slice a37 n37 c37] 25))).heap.size (z37.alloc (Obj.cells #[.int .i64 k37, .slice a37 n37 c37] 25))
        clear ht37
        clear hba38 hbb38 hbc38 hl38 hz37
        have EQ40 := hid (show precOf t4a (joinOf t4a t4b) = true from (joinOf_lub t4a t4b EQ7.out).2.1)
        go_wp2_with fail
        have hc41 := implPrecise t4a (joinOf t4a t4b) _ _ _ _ _ (HA4a.out.below h038) (HA10.out.below h038)
        rw [EQ40.out] at hc41
        refine hc41.mono ?_
        rintro e z42 ⟨rfl, hz42⟩
        have hq42 := below_trans h038 hz42
        replace xa4a := cell_keep xa4a hz42
        replace xb4a := cell_keep xb4a hz42
        replace xa4b := cell_keep xa4b hz42
        replace xb4b := cell_keep xb4b hz42
        replace xa10 := cell_keep xa10 hz42
        replace xb10 := cell_keep xb10 hz42
        replace xa14 := cell_keep xa14 hz42
        replace xb14 := cell_keep xb14 hz42
        replace xa21a := cell_keep xa21a hz42
        replace xb21a := cell_keep xb21a hz42
        replace xa21b := cell_keep xa21b hz42
        replace xb21b := cell_keep xb21b hz42
        replace xa21c := cell_keep xa21c hz42
        replace xb21c := cell_keep xb21c hz42
        replace xa37 := cell_keep xa37 hz42
        replace xb37 := cell_keep xb37 hz42
        clear hc41 hz42
        have EQ43 := hid (show precOf t4b (joinOf t4a t4b) = true from (joinOf_lub t4a t4b EQ7.out).2.2.1)
        go_wp2_with fail
        have hc44 := implPrecise t4b (joinOf t4a t4b) _ _ _ _ _ (HA4b.out.below hq42) (HA10.out.below hq42)
        rw [EQ43.out] at hc44
        refine hc44.mono ?_
        rintro e z45 ⟨rfl, hz45⟩
        have hq45 := below_trans hq42 hz45
        replace xa4a := cell_keep xa4a hz45
        replace xb4a := cell_keep xb4a hz45
        replace xa4b := cell_keep xa4b hz45
        replace xb4b := cell_keep xb4b hz45
        replace xa10 := cell_keep xa10 hz45
        replace xb10 := cell_keep xb10 hz45
        replace xa14 := cell_keep xa14 hz45
        replace xb14 := cell_keep xb14 hz45
        replace xa21a := cell_keep xa21a hz45
        replace xb21a := cell_keep xb21a hz45
        replace xa21b := cell_keep xa21b hz45
        replace xb21b := cell_keep xb21b hz45
        replace xa21c := cell_keep xa21c hz45
        replace xb21c := cell_keep xb21c hz45
        replace xa37 := cell_keep xa37 hz45
        replace xb37 := cell_keep xb37 hz45
        clear hc44 hz45
        have EQ46 := hid (show precOf (joinOf t4a t4b) t21c = true from (joinOf_lub t4a t4b EQ7.out).2.2.2.2.2 t21c EQ24.out EQ28.out)
        go_wp2_with fail
        have hc47 := implPrecise (joinOf t4a t4b) t21c _ _ _ _ _ (HA10.out.below hq45) (HA21c.out.below hq45)
        rw [EQ46.out] at hc47
        refine hc47.mono ?_
        rintro e z48 ⟨rfl, hz48⟩
        have hq48 := below_trans hq45 hz48
        replace xa4a := cell_keep xa4a hz48
        replace xb4a := cell_keep xb4a hz48
        replace xa4b := cell_keep xa4b hz48
        replace xb4b := cell_keep xb4b hz48
        replace xa10 := cell_keep xa10 hz48
        replace xb10 := cell_keep xb10 hz48
        replace xa14 := cell_keep xa14 hz48
        replace xb14 := cell_keep xb14 hz48
        replace xa21a := cell_keep xa21a hz48
        replace xb21a := cell_keep xb21a hz48
        replace xa21b := cell_keep xa21b hz48
        replace xb21b := cell_keep xb21b hz48
        replace xa21c := cell_keep xa21c hz48
        replace xb21c := cell_keep xb21c hz48
        replace xa37 := cell_keep xa37 hz48
        replace xb37 := cell_keep xb37 hz48
        clear hc47 hz48
        have EQ49 := hid (show tyEq (joinOf t4a t4b) (joinOf t4b t4a) = true from (by rw [(joinOf_lub t4a t4b EQ7.out).2.2.2.1]; exact tyEq_refl _))
        go_wp2_with fail
        have hc50 := implTypeSame (joinOf t4a t4b) (joinOf t4b t4a) _ _ _ _ _ (by have := HC10.out; omega) (HA10.out.below hq48) (HA37.out.below hq48) (fun x hx => (HR10.out x hx).below hq48) (fun x hx => (HR37.out x hx).below hq48)
        rw [EQ49.out] at hc50
        refine hc50.mono ?_
        rintro e z51 ⟨rfl, hz51⟩
        have hq51 := below_trans hq48 hz51
        replace xa4a := cell_keep xa4a hz51
        replace xb4a := cell_keep xb4a hz51
        replace xa4b := cell_keep xa4b hz51
        replace xb4b := cell_keep xb4b hz51
        replace xa10 := cell_keep xa10 hz51
        replace xb10 := cell_keep xb10 hz51
        replace xa14 := cell_keep xa14 hz51
        replace xb14 := cell_keep xb14 hz51
        replace xa21a := cell_keep xa21a hz51
        replace xb21a := cell_keep xb21a hz51
        replace xa21b := cell_keep xa21b hz51
        replace xb21b := cell_keep xb21b hz51
        replace xa21c := cell_keep xa21c hz51
        replace xb21c := cell_keep xb21c hz51
        replace xa37 := cell_keep xa37 hz51
        replace xb37 := cell_keep xb37 hz51
        clear hc50 hz51
        go_wp2_with fail
        go_ret
        exact ⟨rfl, below_trans HBL.out hq51⟩
      · have EQ28 := hid hq28
        clear hq28
        go_wp2_with fail
        have hc53 := implPrecise t4a t21c _ _ _ _ _ (HA4a.out.below h022) (HA21c.out.below h022)
        rw [EQ24.out] at hc53
        refine hc53.mono ?_
        rintro e z54 ⟨rfl, hz54⟩
        have hq54 := below_trans h022 hz54
        replace xa4a := cell_keep xa4a hz54
        replace xb4a := cell_keep xb4a hz54
        replace xa4b := cell_keep xa4b hz54
        replace xb4b := cell_keep xb4b hz54
        replace xa10 := cell_keep xa10 hz54
        replace xb10 := cell_keep xb10 hz54
        replace xa14 := cell_keep xa14 hz54
        replace xb14 := cell_keep xb14 hz54
        replace xa21a := cell_keep xa21a hz54
        replace xb21a := cell_keep xb21a hz54
        replace xa21b := cell_keep xa21b hz54
        replace xb21b := cell_keep xb21b hz54
        replace xa21c := cell_keep xa21c hz54
        replace xb21c := cell_keep xb21c hz54
        clear hc53 hz54
        go_wp2_with fail
        have hc55 := implPrecise t4b t21c _ _ _ _ _ (HA4b.out.below hq54) (HA21c.out.below hq54)
        rw [EQ28.out] at hc55
        refine hc55.mono ?_
        rintro e z56 ⟨rfl, hz56⟩
        have hq56 := below_trans hq54 hz56
        replace xa4a := cell_keep xa4a hz56
        replace xb4a := cell_keep xb4a hz56
        replace xa4b := cell_keep xa4b hz56
        replace xb4b := cell_keep xb4b hz56
        replace xa10 := cell_keep xa10 hz56
        replace xb10 := cell_keep xb10 hz56
        replace xa14 := cell_keep xa14 hz56
        replace xb14 := cell_keep xb14 hz56
        replace xa21a := cell_keep xa21a hz56
        replace xb21a := cell_keep xb21a hz56
        replace xa21b := cell_keep xa21b hz56
        replace xb21b := cell_keep xb21b hz56
        replace xa21c := cell_keep xa21c hz56
        replace xb21c := cell_keep xb21c hz56
        clear hc55 hz56
        have EQ58 := hid (show (vld t4b && vld t4a) = true from (by rw [Bool.and_comm]; exact EQ7.out))
        go_wp2_with fail
        have hc59 := implJoinTypes t4b t4a _ _ _ _ _ (HA4b.out.below hq56) (HA4a.out.below hq56) (by have := HC4b.out; omega) (by have := HC4a.out; omega)
        rw [EQ58.out] at hc59
        refine hc59.mono ?_
        rintro e z60 ⟨v60, f60, rfl, ht60, hf60, hz60⟩
        obtain ⟨k60, n60, a60, c60, rfl⟩ := ht60.agg
        clear hc59
        have hba61 : Below z60.heap.size z60 (z60.alloc (Obj.cells #[.int .i64 k60, .slice a60 n60 c60] 25)) := ((Below.refl _ _).alloc (Nat.le_refl _) _)
        have hbb61 := below_trans hz60 hba61
        have hbc61 := below_trans hq56 hbb61
        replace HA4a := hid (HA4a.out.below hbc61)
        replace HR4a := hid (fun x hx => (HR4a.out x hx).below hbc61)
        replace HA4b := hid (HA4b.out.below hbc61)
        replace HR4b := hid (fun x hx => (HR4b.out x hx).below hbc61)
        replace HA10 := hid (HA10.out.below hbc61)
        replace HR10 := hid (fun x hx => (HR10.out x hx).below hbc61)
        replace HA14 := hid (HA14.out.below hbc61)
        replace HR14 := hid (fun x hx => (HR14.out x hx).below hbc61)
        replace HA21a := hid (HA21a.out.below hbc61)
        replace HR21a := hid (fun x hx => (HR21a.out x hx).below hbc61)
        replace HA21b := hid (HA21b.out.below hbc61)
        replace HR21b := hid (fun x hx => (HR21b.out x hx).below hbc61)
        replace HA21c := hid (HA21c.out.below hbc61)
        replace HBL := hid (below_trans HBL.out hbc61)
        replace xa4a := cell_keep xa4a hbb61
        replace xb4a := cell_keep xb4a hbb61
        replace xa4b := cell_keep xa4b hbb61
        replace xb4b := cell_keep xb4b hbb61
        replace xa10 := cell_keep xa10 hbb61
        replace xb10 := cell_keep xb10 hbb61
        replace xa14 := cell_keep xa14 hbb61
        replace xb14 := cell_keep xb14 hbb61
        replace xa21a := cell_keep xa21a hbb61
        replace xb21a := cell_keep xb21a hbb61
        replace xa21b := cell_keep xa21b hbb61
        replace xb21b := cell_keep xb21b hbb61
        replace xa21c := cell_keep xa21c hbb61
        replace xb21c := cell_keep xb21c hbb61
        have HA60 := hid (ht60.below hba61)
        have HR60 := hid (show ∀ x ∈ f60, Raw (z60.alloc (Obj.cells #[.int .i64 k60, .slice a60 n60 c60] 25)) x from fun x hx => Raw.below (Fresh.raw ht60 hf60 x hx) hba61)
        have HC60 := hid (show (joinOf t4b t4a).cnt ≤ 200 from (Nat.le_trans (joinOf_cnt t4b t4a) (by have := HC4b.out; have := HC4a.out; omega)))
        have hl61 := lay1 z60 (Obj.cells #[.int .i64 k60, .slice a60 n60 c60] 25)
        have xa60 : ((z60.alloc (Obj.cells #[.int .i64 k60, .slice a60 n60 c60] 25))).cell? ⟨z60.heap.size, 0, none⟩ = some (.int .i64 k60) := by rw [cell_of_block hl61]; rfl
        have xb60 : ((z60.alloc (Obj.cells #[.int .i64 k60, .slice a60 n60 c60] 25))).cell? ⟨z60.heap.size, 1, none⟩ = some (.slice a60 n60 c60) := by rw [cell_of_block hl61]; rfl
        have h061 := Below.refl ((z60.alloc (Obj.cells #[.int .i64 k60, .slice a60 n60 c60] 25))).heap.size (z60.alloc (Obj.cells #[.int .i64 k60, .slice a60 n60 c60] 25))
        clear ht60
        clear hba61 hbb61 hbc61 hl61 hz60
        have EQ63 := hid (show precOf t4a (joinOf t4a t4b) = true from (joinOf_lub t4a t4b EQ7.out).2.1)
        go_wp2_with fail
        have hc64 := implPrecise t4a (joinOf t4a t4b) _ _ _ _ _ (HA4a.out.below h061) (HA10.out.below h061)
        rw [EQ63.out] at hc64
        refine hc64.mono ?_
        rintro e z65 ⟨rfl, hz65⟩
        have hq65 := below_trans h061 hz65
        replace xa4a := cell_keep xa4a hz65
        replace xb4a := cell_keep xb4a hz65
        replace xa4b := cell_keep xa4b hz65
        replace xb4b := cell_keep xb4b hz65
        replace xa10 := cell_keep xa10 hz65
        replace xb10 := cell_keep xb10 hz65
        replace xa14 := cell_keep xa14 hz65
        replace xb14 := cell_keep xb14 hz65
        replace xa21a := cell_keep xa21a hz65
        replace xb21a := cell_keep xb21a hz65
        replace xa21b := cell_keep xa21b hz65
        replace xb21b := cell_keep xb21b hz65
        replace xa21c := cell_keep xa21c hz65
        replace xb21c := cell_keep xb21c hz65
        replace xa60 := cell_keep xa60 hz65
        replace xb60 := cell_keep xb60 hz65
        clear hc64 hz65
        have EQ66 := hid (show precOf t4b (joinOf t4a t4b) = true from (joinOf_lub t4a t4b EQ7.out).2.2.1)
        go_wp2_with fail
        have hc67 := implPrecise t4b (joinOf t4a t4b) _ _ _ _ _ (HA4b.out.below hq65) (HA10.out.below hq65)
        rw [EQ66.out] at hc67
        refine hc67.mono ?_
        rintro e z68 ⟨rfl, hz68⟩
        have hq68 := below_trans hq65 hz68
        replace xa4a := cell_keep xa4a hz68
        replace xb4a := cell_keep xb4a hz68
        replace xa4b := cell_keep xa4b hz68
        replace xb4b := cell_keep xb4b hz68
        replace xa10 := cell_keep xa10 hz68
        replace xb10 := cell_keep xb10 hz68
        replace xa14 := cell_keep xa14 hz68
        replace xb14 := cell_keep xb14 hz68
        replace xa21a := cell_keep xa21a hz68
        replace xb21a := cell_keep xb21a hz68
        replace xa21b := cell_keep xa21b hz68
        replace xb21b := cell_keep xb21b hz68
        replace xa21c := cell_keep xa21c hz68
        replace xb21c := cell_keep xb21c hz68
        replace xa60 := cell_keep xa60 hz68
        replace xb60 := cell_keep xb60 hz68
        clear hc67 hz68
        have EQ69 := hid (show tyEq (joinOf t4a t4b) (joinOf t4b t4a) = true from (by rw [(joinOf_lub t4a t4b EQ7.out).2.2.2.1]; exact tyEq_refl _))
        go_wp2_with fail
        have hc70 := implTypeSame (joinOf t4a t4b) (joinOf t4b t4a) _ _ _ _ _ (by have := HC10.out; omega) (HA10.out.below hq68) (HA60.out.below hq68) (fun x hx => (HR10.out x hx).below hq68) (fun x hx => (HR60.out x hx).below hq68)
        rw [EQ69.out] at hc70
        refine hc70.mono ?_
        rintro e z71 ⟨rfl, hz71⟩
        have hq71 := below_trans hq68 hz71
        replace xa4a := cell_keep xa4a hz71
        replace xb4a := cell_keep xb4a hz71
        replace xa4b := cell_keep xa4b hz71
        replace xb4b := cell_keep xb4b hz71
        replace xa10 := cell_keep xa10 hz71
        replace xb10 := cell_keep xb10 hz71
        replace xa14 := cell_keep xa14 hz71
        replace xb14 := cell_keep xb14 hz71
        replace xa21a := cell_keep xa21a hz71
        replace xb21a := cell_keep xb21a hz71
        replace xa21b := cell_keep xa21b hz71
        replace xb21b := cell_keep xb21b hz71
        replace xa21c := cell_keep xa21c hz71
        replace xb21c := cell_keep xb21c hz71
        replace xa60 := cell_keep xa60 hz71
        replace xb60 := cell_keep xb60 hz71
        clear hc70 hz71
        go_wp2_with fail
        go_ret
        exact ⟨rfl, below_trans HBL.out hq71⟩
    · have EQ24 := hid hq24
      clear hq24
      go_wp2_with fail
      have hc73 := implPrecise t4a t21c _ _ _ _ _ (HA4a.out.below h022) (HA21c.out.below h022)
      rw [EQ24.out] at hc73
      refine hc73.mono ?_
      rintro e z74 ⟨rfl, hz74⟩
      have hq74 := below_trans h022 hz74
      replace xa4a := cell_keep xa4a hz74
      replace xb4a := cell_keep xb4a hz74
      replace xa4b := cell_keep xa4b hz74
      replace xb4b := cell_keep xb4b hz74
      replace xa10 := cell_keep xa10 hz74
      replace xb10 := cell_keep xb10 hz74
      replace xa14 := cell_keep xa14 hz74
      replace xb14 := cell_keep xb14 hz74
      replace xa21a := cell_keep xa21a hz74
      replace xb21a := cell_keep xb21a hz74
      replace xa21b := cell_keep xa21b hz74
      replace xb21b := cell_keep xb21b hz74
      replace xa21c := cell_keep xa21c hz74
      replace xb21c := cell_keep xb21c hz74
      clear hc73 hz74
      have EQ76 := hid (show (vld t4b && vld t4a) = true from (by rw [Bool.and_comm]; exact EQ7.out))
      go_wp2_with fail
      have hc77 := implJoinTypes t4b t4a _ _ _ _ _ (HA4b.out.below hq74) (HA4a.out.below hq74) (by have := HC4b.out; omega) (by have := HC4a.out; omega)
      rw [EQ76.out] at hc77
      refine hc77.mono ?_
      rintro e z78 ⟨v78, f78, rfl, ht78, hf78, hz78⟩
      obtain ⟨k78, n78, a78, c78, rfl⟩ := ht78.agg
      clear hc77
      have hba79 : Below z78.heap.size z78 (z78.alloc (Obj.cells #[.int .i64 k78, .slice a78 n78 c78] 25)) := ((Below.refl _ _).alloc (Nat.le_refl _) _)
      have hbb79 := below_trans hz78 hba79
      have hbc79 := below_trans hq74 hbb79
      replace HA4a := hid (HA4a.out.below hbc79)
      replace HR4a := hid (fun x hx => (HR4a.out x hx).below hbc79)
      replace HA4b := hid (HA4b.out.below hbc79)
      replace HR4b := hid (fun x hx => (HR4b.out x hx).below hbc79)
      replace HA10 := hid (HA10.out.below hbc79)
      replace HR10 := hid (fun x hx => (HR10.out x hx).below hbc79)
      replace HA14 := hid (HA14.out.below hbc79)
      replace HR14 := hid (fun x hx => (HR14.out x hx).below hbc79)
      replace HA21a := hid (HA21a.out.below hbc79)
      replace HR21a := hid (fun x hx => (HR21a.out x hx).below hbc79)
      replace HA21b := hid (HA21b.out.below hbc79)
      replace HR21b := hid (fun x hx => (HR21b.out x hx).below hbc79)
      replace HA21c := hid (HA21c.out.below hbc79)
      replace HBL := hid (below_trans HBL.out hbc79)
      replace xa4a := cell_keep xa4a hbb79
      replace xb4a := cell_keep xb4a hbb79
      replace xa4b := cell_keep xa4b hbb79
      replace xb4b := cell_keep xb4b hbb79
      replace xa10 := cell_keep xa10 hbb79
      replace xb10 := cell_keep xb10 hbb79
      replace xa14 := cell_keep xa14 hbb79
      replace xb14 := cell_keep xb14 hbb79
      replace xa21a := cell_keep xa21a hbb79
      replace xb21a := cell_keep xb21a hbb79
      replace xa21b := cell_keep xa21b hbb79
      replace xb21b := cell_keep xb21b hbb79
      replace xa21c := cell_keep xa21c hbb79
      replace xb21c := cell_keep xb21c hbb79
      have HA78 := hid (ht78.below hba79)
      have HR78 := hid (show ∀ x ∈ f78, Raw (z78.alloc (Obj.cells #[.int .i64 k78, .slice a78 n78 c78] 25)) x from fun x hx => Raw.below (Fresh.raw ht78 hf78 x hx) hba79)
      have HC78 := hid (show (joinOf t4b t4a).cnt ≤ 200 from (Nat.le_trans (joinOf_cnt t4b t4a) (by have := HC4b.out; have := HC4a.out; omega)))
      have hl79 := lay1 z78 (Obj.cells #[.int .i64 k78, .slice a78 n78 c78] 25)
      have xa78 : ((z78.alloc (Obj.cells #[.int .i64 k78, .slice a78 n78 c78] 25))).cell? ⟨z78.heap.size, 0, none⟩ = some (.int .i64 k78) := by rw [cell_of_block hl79]; rfl
      have xb78 : ((z78.alloc (Obj.cells #[.int .i64 k78, .slice a78 n78 c78] 25))).cell? ⟨z78.heap.size, 1, none⟩ = some (.slice a78 n78 c78) := by rw [cell_of_block hl79]; rfl
      have h079 := Below.refl ((z78.alloc (Obj.cells #[.int .i64 k78, .slice a78 n78 c78] 25))).heap.size (z78.alloc (Obj.cells #[.int .i64 k78, .slice a78 n78 c78] 25))
      clear ht78
      clear hba79 hbb79 hbc79 hl79 hz78
      have EQ81 := hid (show precOf t4a (joinOf t4a t4b) = true from (joinOf_lub t4a t4b EQ7.out).2.1)
      go_wp2_with fail
      have hc82 := implPrecise t4a (joinOf t4a t4b) _ _ _ _ _ (HA4a.out.below h079) (HA10.out.below h079)
      rw [EQ81.out] at hc82
      refine hc82.mono ?_
      rintro e z83 ⟨rfl, hz83⟩
      have hq83 := below_trans h079 hz83
      replace xa4a := cell_keep xa4a hz83
      replace xb4a := cell_keep xb4a hz83
      replace xa4b := cell_keep xa4b hz83
      replace xb4b := cell_keep xb4b hz83
      replace xa10 := cell_keep xa10 hz83
      replace xb10 := cell_keep xb10 hz83
      replace xa14 := cell_keep xa14 hz83
      replace xb14 := cell_keep xb14 hz83
      replace xa21a := cell_keep xa21a hz83
      replace xb21a := cell_keep xb21a hz83
      replace xa21b := cell_keep xa21b hz83
      replace xb21b := cell_keep xb21b hz83
      replace xa21c := cell_keep xa21c hz83
      replace xb21c := cell_keep xb21c hz83
      replace xa78 := cell_keep xa78 hz83
      replace xb78 := cell_keep xb78 hz83
      clear hc82 hz83
      have EQ84 := hid (show precOf t4b (joinOf t4a t4b) = true from (joinOf_lub t4a t4b EQ7.out).2.2.1)
      go_wp2_with fail
      have hc85 := implPrecise t4b (joinOf t4a t4b) _ _ _ _ _ (HA4b.out.below hq83) (HA10.out.below hq83)
      rw [EQ84.out] at hc85
      refine hc85.mono ?_
      rintro e z86 ⟨rfl, hz86⟩
      have hq86 := below_trans hq83 hz86
      replace xa4a := cell_keep xa4a hz86
      replace xb4a := cell_keep xb4a hz86
      replace xa4b := cell_keep xa4b hz86
      replace xb4b := cell_keep xb4b hz86
      replace xa10 := cell_keep xa10 hz86
      replace xb10 := cell_keep xb10 hz86
      replace xa14 := cell_keep xa14 hz86
      replace xb14 := cell_keep xb14 hz86
      replace xa21a := cell_keep xa21a hz86
      replace xb21a := cell_keep xb21a hz86
      replace xa21b := cell_keep xa21b hz86
      replace xb21b := cell_keep xb21b hz86
      replace xa21c := cell_keep xa21c hz86
      replace xb21c := cell_keep xb21c hz86
      replace xa78 := cell_keep xa78 hz86
      replace xb78 := cell_keep xb78 hz86
      clear hc85 hz86
      have EQ87 := hid (show tyEq (joinOf t4a t4b) (joinOf t4b t4a) = true from (by rw [(joinOf_lub t4a t4b EQ7.out).2.2.2.1]; exact tyEq_refl _))
      go_wp2_with fail
      have hc88 := implTypeSame (joinOf t4a t4b) (joinOf t4b t4a) _ _ _ _ _ (by have := HC10.out; omega) (HA10.out.below hq86) (HA78.out.below hq86) (fun x hx => (HR10.out x hx).below hq86) (fun x hx => (HR78.out x hx).below hq86)
      rw [EQ87.out] at hc88
      refine hc88.mono ?_
      rintro e z89 ⟨rfl, hz89⟩
      have hq89 := below_trans hq86 hz89
      replace xa4a := cell_keep xa4a hz89
      replace xb4a := cell_keep xb4a hz89
      replace xa4b := cell_keep xa4b hz89
      replace xb4b := cell_keep xb4b hz89
      replace xa10 := cell_keep xa10 hz89
      replace xb10 := cell_keep xb10 hz89
      replace xa14 := cell_keep xa14 hz89
      replace xb14 := cell_keep xb14 hz89
      replace xa21a := cell_keep xa21a hz89
      replace xb21a := cell_keep xb21a hz89
      replace xa21b := cell_keep xa21b hz89
      replace xb21b := cell_keep xb21b hz89
      replace xa21c := cell_keep xa21c hz89
      replace xb21c := cell_keep xb21c hz89
      replace xa78 := cell_keep xa78 hz89
      replace xb78 := cell_keep xb78 hz89
      clear hc88 hz89
      go_wp2_with fail
      go_ret
      exact ⟨rfl, below_trans HBL.out hq89⟩
  · have EQ7 := hid hq7
    clear hq7
    go_wp2_with fail
    have hc91 := implJoinTypes t4a t4b _ _ _ _ _ (HA4a.out.below h05) (HA4b.out.below h05) (by have := HC4a.out; omega) (by have := HC4b.out; omega)
    rw [EQ7.out] at hc91
    refine hc91.mono ?_
    rintro e z92 ⟨v92, f92, rfl, ht92, hf92, hz92⟩
    obtain ⟨k92, n92, a92, c92, rfl⟩ := ht92.agg
    clear hc91
    have hba93 : Below z92.heap.size z92 (z92.alloc (Obj.cells #[.int .i64 k92, .slice a92 n92 c92] 25)) := ((Below.refl _ _).alloc (Nat.le_refl _) _)
    have hbb93 := below_trans hz92 hba93
    have hbc93 := below_trans h05 hbb93
    replace HA4a := hid (HA4a.out.below hbc93)
    replace HR4a := hid (fun x hx => (HR4a.out x hx).below hbc93)
    replace HA4b := hid (HA4b.out.below hbc93)
    replace HR4b := hid (fun x hx => (HR4b.out x hx).below hbc93)
    replace HBL := hid (below_trans HBL.out hbc93)
    replace xa4a := cell_keep xa4a hbb93
    replace xb4a := cell_keep xb4a hbb93
    replace xa4b := cell_keep xa4b hbb93
    replace xb4b := cell_keep xb4b hbb93
    have HA92 := hid (ht92.below hba93)
    have HR92 := hid (show ∀ x ∈ f92, Raw (z92.alloc (Obj.cells #[.int .i64 k92, .slice a92 n92 c92] 25)) x from fun x hx => Raw.below (Fresh.raw ht92 hf92 x hx) hba93)
    have HC92 := hid (show (joinOf t4a t4b).cnt ≤ 200 from (Nat.le_trans (joinOf_cnt t4a t4b) (by have := HC4a.out; have := HC4b.out; omega)))
    have hl93 := lay1 z92 (Obj.cells #[.int .i64 k92, .slice a92 n92 c92] 25)
    have xa92 : ((z92.alloc (Obj.cells #[.int .i64 k92, .slice a92 n92 c92] 25))).cell? ⟨z92.heap.size, 0, none⟩ = some (.int .i64 k92) := by rw [cell_of_block hl93]; rfl
    have xb92 : ((z92.alloc (Obj.cells #[.int .i64 k92, .slice a92 n92 c92] 25))).cell? ⟨z92.heap.size, 1, none⟩ = some (.slice a92 n92 c92) := by rw [cell_of_block hl93]; rfl
    have h093 := Below.refl ((z92.alloc (Obj.cells #[.int .i64 k92, .slice a92 n92 c92] 25))).heap.size (z92.alloc (Obj.cells #[.int .i64 k92, .slice a92 n92 c92] 25))
    clear ht92
    clear hba93 hbb93 hbc93 hl93 hz92
    go_wp2_with fail
    have hc95 := specJoinTypes t4a t4b _ _ _ _ _ (HA4a.out.below h093) (HA4b.out.below h093) (by have := HC4a.out; omega) (by have := HC4b.out; omega)
    rw [EQ7.out] at hc95
    refine hc95.mono ?_
    rintro e z96 ⟨v96, f96, rfl, ht96, hf96, hz96⟩
    obtain ⟨k96, n96, a96, c96, rfl⟩ := ht96.agg
    clear hc95
    have hba97 : Below z96.heap.size z96 (z96.alloc (Obj.cells #[.int .i64 k96, .slice a96 n96 c96] 25)) := ((Below.refl _ _).alloc (Nat.le_refl _) _)
    have hbb97 := below_trans hz96 hba97
    have hbc97 := below_trans h093 hbb97
    replace HA4a := hid (HA4a.out.below hbc97)
    replace HR4a := hid (fun x hx => (HR4a.out x hx).below hbc97)
    replace HA4b := hid (HA4b.out.below hbc97)
    replace HR4b := hid (fun x hx => (HR4b.out x hx).below hbc97)
    replace HA92 := hid (HA92.out.below hbc97)
    replace HR92 := hid (fun x hx => (HR92.out x hx).below hbc97)
    replace HBL := hid (below_trans HBL.out hbc97)
    replace xa4a := cell_keep xa4a hbb97
    replace xb4a := cell_keep xb4a hbb97
    replace xa4b := cell_keep xa4b hbb97
    replace xb4b := cell_keep xb4b hbb97
    replace xa92 := cell_keep xa92 hbb97
    replace xb92 := cell_keep xb92 hbb97
    have HA96 := hid (ht96.below hba97)
    have HR96 := hid (show ∀ x ∈ f96, Raw (z96.alloc (Obj.cells #[.int .i64 k96, .slice a96 n96 c96] 25)) x from fun x hx => Raw.below (Fresh.raw ht96 hf96 x hx) hba97)
    have HC96 := hid (show (joinOf t4a t4b).cnt ≤ 200 from (Nat.le_trans (joinOf_cnt t4a t4b) (by have := HC4a.out; have := HC4b.out; omega)))
    have hl97 := lay1 z96 (Obj.cells #[.int .i64 k96, .slice a96 n96 c96] 25)
    have xa96 : ((z96.alloc (Obj.cells #[.int .i64 k96, .slice a96 n96 c96] 25))).cell? ⟨z96.heap.size, 0, none⟩ = some (.int .i64 k96) := by rw [cell_of_block hl97]; rfl
    have xb96 : ((z96.alloc (Obj.cells #[.int .i64 k96, .slice a96 n96 c96] 25))).cell? ⟨z96.heap.size, 1, none⟩ = some (.slice a96 n96 c96) := by rw [cell_of_block hl97]; rfl
    have h097 := Below.refl ((z96.alloc (Obj.cells #[.int .i64 k96, .slice a96 n96 c96] 25))).heap.size (z96.alloc (Obj.cells #[.int .i64 k96, .slice a96 n96 c96] 25))
    clear ht96
    clear hba97 hbb97 hbc97 hl97 hz96
    have EQ99 := hid (show tyEq (joinOf t4a t4b) (joinOf t4a t4b) = true from tyEq_refl (joinOf t4a t4b))
    go_wp2_with fail
    have hc100 := implTypeSame (joinOf t4a t4b) (joinOf t4a t4b) _ _ _ _ _ (by have := HC92.out; omega) (HA92.out.below h097) (HA96.out.below h097) (fun x hx => (HR92.out x hx).below h097) (fun x hx => (HR96.out x hx).below h097)
    rw [EQ99.out] at hc100
    refine hc100.mono ?_
    rintro e z101 ⟨rfl, hz101⟩
    have hq101 := below_trans h097 hz101
    replace xa4a := cell_keep xa4a hz101
    replace xb4a := cell_keep xb4a hz101
    replace xa4b := cell_keep xa4b hz101
    replace xb4b := cell_keep xb4b hz101
    replace xa92 := cell_keep xa92 hz101
    replace xb92 := cell_keep xb92 hz101
    replace xa96 := cell_keep xa96 hz101
    replace xb96 := cell_keep xb96 hz101
    clear hc100 hz101
    go_wp2_with fail
    have hc103 := implTypeSame (joinOf t4a t4b) (joinOf t4a t4b) _ _ _ _ _ (by have := HC92.out; omega) (HA92.out.below hq101) (HA96.out.below hq101) (fun x hx => (HR92.out x hx).below hq101) (fun x hx => (HR96.out x hx).below hq101)
    rw [EQ99.out] at hc103
    refine hc103.mono ?_
    rintro e z104 ⟨rfl, hz104⟩
    have hq104 := below_trans hq101 hz104
    replace xa4a := cell_keep xa4a hz104
    replace xb4a := cell_keep xb4a hz104
    replace xa4b := cell_keep xa4b hz104
    replace xb4b := cell_keep xb4b hz104
    replace xa92 := cell_keep xa92 hz104
    replace xb92 := cell_keep xb92 hz104
    replace xa96 := cell_keep xa96 hz104
    replace xb96 := cell_keep xb96 hz104
    clear hc103 hz104
    go_wp2_with fail
    go_ret
    exact ⟨rfl, below_trans HBL.out hq104⟩
end Go.Proofs.Ytelbpgdlcnnabaa
