/- The law FnMeetLaws: it returns true and writes nothing that was there. -/
import Derived.Test.YtelbpgdlcnnabaaDr8
import Derived.Test.YtelbpgdlcnnabaaDlP
import Derived.Test.YtelbpgdlcnnabaaReg
import Derived.Test.YtelbpgdlcnnabaaRaw
import Derived.Test.YtelbpgdlcnnabaaDMt
import Derived.Test.YtelbpgdlcnnabaaMeetI
import Derived.Test.YtelbpgdlcnnabaaMeetT
import Derived.Test.YtelbpgdlcnnabaaRel
import Derived.Test.YtelbpgdlcnnabaaMsP
import Derived.Deep.RegionHeld3
namespace Go.Proofs.Ytelbpgdlcnnabaa
open Go.RowKit

/-- Boxes that have just been laid. -/
theorem lay1 (w : World) (o1 : Obj) : (w.alloc o1).heap[w.heap.size]? = some o1 := alloc_new _ _
theorem lay2 (w : World) (o1 o2 : Obj) : ((w.alloc o1).alloc o2).heap[w.heap.size]? = some o1 ∧ ((w.alloc o1).alloc o2).heap[w.heap.size + 1]? = some o2 := by
  have h2 := alloc_new (w.alloc o1) o2
  have hs : (w.alloc o1).heap.size = w.heap.size + 1 := by simp
  rw [hs] at h2
  exact ⟨(Below.heap_alloc _ _ _ (by simp)).trans (alloc_new _ _), h2⟩
theorem lay3 (w : World) (o1 o2 o3 : Obj) : (((w.alloc o1).alloc o2).alloc o3).heap[w.heap.size]? = some o1 ∧ (((w.alloc o1).alloc o2).alloc o3).heap[w.heap.size + 1]? = some o2 ∧ (((w.alloc o1).alloc o2).alloc o3).heap[w.heap.size + 1 + 1]? = some o3 := by
  obtain ⟨a, b⟩ := lay2 w o1 o2
  have h3 := alloc_new ((w.alloc o1).alloc o2) o3
  have hs : ((w.alloc o1).alloc o2).heap.size = w.heap.size + 1 + 1 := by simp
  rw [hs] at h3
  exact ⟨(Below.heap_alloc _ _ _ (by simp; omega)).trans a, (Below.heap_alloc _ _ _ (by simp)).trans b, h3⟩


set_option linter.unusedSimpArgs false in
set_option linter.unusedVariables false in
set_option maxRecDepth 100000 in
set_option maxHeartbeats 16000000 in
theorem lawDMtL (a00 : Option Addr) (n00 cap00 : Nat) (a01 : Option Addr) (n01 cap01 : Nat) (w : World) (hB0 : BytA w a00 n00) (hn0 : n00 ≤ cap00) (hm0 : cap00 ≤ maxLen) (hB1 : BytA w a01 n01) (hn1 : n01 ≤ cap01) (hm1 : cap01 ≤ maxLen) :
    Calls Try.prog 4 #[.slice a00 n00 cap00, .slice a01 n01 cap01] w fun e w' => e = .returned (.bool true) ∧ Below w.heap.size w w' := by
  by_cases hl0 : (n00 : Int) > 1048576
  · clear hB0 hB1
    go_enter Try.func4, Try.ntmps4
    go_wp2_with fail
    go_ret
    exact ⟨rfl, Below.refl _ _⟩
  by_cases hl1 : (n01 : Int) > 1048576
  · clear hB0 hB1
    go_enter Try.func4, Try.ntmps4
    go_wp2_with fail
    go_ret
    exact ⟨rfl, Below.refl _ _⟩
  have HBY0 := hid hB0
  have HNN0 := hid hn0
  have HMM0 := hid hm0
  have HBY1 := hid hB1
  have HNN1 := hid hn1
  have HMM1 := hid hm1
  clear hB0 hn0 hm0 hB1 hn1 hm1
  go_enter Try.func4, Try.ntmps4
  go_wp2_with fail
  refine (drawMeet_any a00 n00 cap00 _ (HBY0.out.below (Below.refl _ _)) HNN0.out HMM0.out).mono ?_
  rintro e z4 ⟨t4a, t4b, v4a, v4b, f4a, f4b, rfl, hs4, ht4a, ht4b, hg4a, hg4b, hz4⟩
  obtain ⟨k4a, n4a, a4a, c4a, rfl⟩ := ht4a.agg
  obtain ⟨k4b, n4b, a4b, c4b, rfl⟩ := ht4b.agg
  have hba5 : Below z4.heap.size z4 ((z4.alloc (Obj.cells #[.int .i64 k4a, .slice a4a n4a c4a] 25)).alloc (Obj.cells #[.int .i64 k4b, .slice a4b n4b c4b] 25)) := (((Below.refl _ _).alloc (Nat.le_refl _) _).alloc (by simp) _)
  have hbb5 := below_trans hz4 hba5
  have hbc5 := hbb5
  have HBL := hid hbc5
  have HA4a := hid (ht4a.below hba5)
  have HR4a := hid (show ∀ x ∈ f4a, Raw ((z4.alloc (Obj.cells #[.int .i64 k4a, .slice a4a n4a c4a] 25)).alloc (Obj.cells #[.int .i64 k4b, .slice a4b n4b c4b] 25)) x from fun x hx => Raw.below ⟨ht4a.laid x hx, (hg4a x hx).2⟩ hba5)
  have HC4a := hid (show (t4a).cnt ≤ 100 from hs4.1)
  have HA4b := hid (ht4b.below hba5)
  have HR4b := hid (show ∀ x ∈ f4b, Raw ((z4.alloc (Obj.cells #[.int .i64 k4a, .slice a4a n4a c4a] 25)).alloc (Obj.cells #[.int .i64 k4b, .slice a4b n4b c4b] 25)) x from fun x hx => Raw.below ⟨ht4b.laid x hx, (hg4b x hx).2⟩ hba5)
  have HC4b := hid (show (t4b).cnt ≤ 100 from hs4.2)
  have hl5 := lay2 z4 (Obj.cells #[.int .i64 k4a, .slice a4a n4a c4a] 25) (Obj.cells #[.int .i64 k4b, .slice a4b n4b c4b] 25)
  have xa4a : (((z4.alloc (Obj.cells #[.int .i64 k4a, .slice a4a n4a c4a] 25)).alloc (Obj.cells #[.int .i64 k4b, .slice a4b n4b c4b] 25))).cell? ⟨z4.heap.size, 0, none⟩ = some (.int .i64 k4a) := by rw [cell_of_block hl5.1]; rfl
  have xb4a : (((z4.alloc (Obj.cells #[.int .i64 k4a, .slice a4a n4a c4a] 25)).alloc (Obj.cells #[.int .i64 k4b, .slice a4b n4b c4b] 25))).cell? ⟨z4.heap.size, 1, none⟩ = some (.slice a4a n4a c4a) := by rw [cell_of_block hl5.1]; rfl
  have xa4b : (((z4.alloc (Obj.cells #[.int .i64 k4a, .slice a4a n4a c4a] 25)).alloc (Obj.cells #[.int .i64 k4b, .slice a4b n4b c4b] 25))).cell? ⟨z4.heap.size + 1, 0, none⟩ = some (.int .i64 k4b) := by rw [cell_of_block hl5.2]; rfl
  have xb4b : (((z4.alloc (Obj.cells #[.int .i64 k4a, .slice a4a n4a c4a] 25)).alloc (Obj.cells #[.int .i64 k4b, .slice a4b n4b c4b] 25))).cell? ⟨z4.heap.size + 1, 1, none⟩ = some (.slice a4b n4b c4b) := by rw [cell_of_block hl5.2]; rfl
  have h05 := Below.refl (((z4.alloc (Obj.cells #[.int .i64 k4a, .slice a4a n4a c4a] 25)).alloc (Obj.cells #[.int .i64 k4b, .slice a4b n4b c4b] 25))).heap.size ((z4.alloc (Obj.cells #[.int .i64 k4a, .slice a4a n4a c4a] 25)).alloc (Obj.cells #[.int .i64 k4b, .slice a4b n4b c4b] 25))
  clear ht4a
  clear ht4b
  clear hba5 hbb5 hbc5 hl5 hz4
  rcases Bool.eq_false_or_eq_true (consOf t4a t4b) with hq7 | hq7
  · have EQ7 := hid hq7
    clear hq7
    go_wp2_with fail
    have hc9 := implMeetTypes t4a t4b _ _ _ _ _ (HA4a.out.below h05) (HA4b.out.below h05) (by have := HC4a.out; omega) (by have := HC4b.out; omega)
    rw [EQ7.out] at hc9
    refine hc9.mono ?_
    rintro e z10 ⟨v10, f10, rfl, ht10, hf10, hz10⟩
    obtain ⟨k10, n10, a10, c10, rfl⟩ := ht10.agg
    clear hc9
    have hba11 : Below z10.heap.size z10 (z10.alloc (Obj.cells #[.int .i64 k10, .slice a10 n10 c10] 25)) := ((Below.refl _ _).alloc (Nat.le_refl _) _)
    have hbb11 := below_trans hz10 hba11
    have hbc11 := below_trans h05 hbb11
    replace HA4a := hid (HA4a.out.below hbc11)
    replace HR4a := hid (fun x hx => (HR4a.out x hx).below hbc11)
    replace HA4b := hid (HA4b.out.below hbc11)
    replace HR4b := hid (fun x hx => (HR4b.out x hx).below hbc11)
    replace HBL := hid (below_trans HBL.out hbc11)
    replace xa4a := cell_keep xa4a hbb11
    replace xb4a := cell_keep xb4a hbb11
    replace xa4b := cell_keep xa4b hbb11
    replace xb4b := cell_keep xb4b hbb11
    have HA10 := hid (ht10.below hba11)
    have HR10 := hid (show ∀ x ∈ f10, Raw (z10.alloc (Obj.cells #[.int .i64 k10, .slice a10 n10 c10] 25)) x from fun x hx => Raw.below (Fresh.raw ht10 hf10 x hx) hba11)
    have HC10 := hid (show (meetOf t4a t4b).cnt ≤ 200 from (Nat.le_trans (meetOf_cnt t4a t4b) (by have := HC4a.out; have := HC4b.out; omega)))
    have hl11 := lay1 z10 (Obj.cells #[.int .i64 k10, .slice a10 n10 c10] 25)
    have xa10 : ((z10.alloc (Obj.cells #[.int .i64 k10, .slice a10 n10 c10] 25))).cell? ⟨z10.heap.size, 0, none⟩ = some (.int .i64 k10) := by rw [cell_of_block hl11]; rfl
    have xb10 : ((z10.alloc (Obj.cells #[.int .i64 k10, .slice a10 n10 c10] 25))).cell? ⟨z10.heap.size, 1, none⟩ = some (.slice a10 n10 c10) := by rw [cell_of_block hl11]; rfl
    have h011 := Below.refl ((z10.alloc (Obj.cells #[.int .i64 k10, .slice a10 n10 c10] 25))).heap.size (z10.alloc (Obj.cells #[.int .i64 k10, .slice a10 n10 c10] 25))
    clear ht10
    clear hba11 hbb11 hbc11 hl11 hz10
    go_wp2_with fail
    have hc13 := specMeetTypes t4a t4b _ _ _ _ _ (HA4a.out.below h011) (HA4b.out.below h011) (by have := HC4a.out; omega) (by have := HC4b.out; omega)
    rw [EQ7.out] at hc13
    refine hc13.mono ?_
    rintro e z14 ⟨v14, f14, rfl, ht14, hf14, hz14⟩
    obtain ⟨k14, n14, a14, c14, rfl⟩ := ht14.agg
    clear hc13
    have hba15 : Below z14.heap.size z14 (z14.alloc (Obj.cells #[.int .i64 k14, .slice a14 n14 c14] 25)) := ((Below.refl _ _).alloc (Nat.le_refl _) _)
    have hbb15 := below_trans hz14 hba15
    have hbc15 := below_trans h011 hbb15
    replace HA4a := hid (HA4a.out.below hbc15)
    replace HR4a := hid (fun x hx => (HR4a.out x hx).below hbc15)
    replace HA4b := hid (HA4b.out.below hbc15)
    replace HR4b := hid (fun x hx => (HR4b.out x hx).below hbc15)
    replace HA10 := hid (HA10.out.below hbc15)
    replace HR10 := hid (fun x hx => (HR10.out x hx).below hbc15)
    replace HBL := hid (below_trans HBL.out hbc15)
    replace xa4a := cell_keep xa4a hbb15
    replace xb4a := cell_keep xb4a hbb15
    replace xa4b := cell_keep xa4b hbb15
    replace xb4b := cell_keep xb4b hbb15
    replace xa10 := cell_keep xa10 hbb15
    replace xb10 := cell_keep xb10 hbb15
    have HA14 := hid (ht14.below hba15)
    have HR14 := hid (show ∀ x ∈ f14, Raw (z14.alloc (Obj.cells #[.int .i64 k14, .slice a14 n14 c14] 25)) x from fun x hx => Raw.below (Fresh.raw ht14 hf14 x hx) hba15)
    have HC14 := hid (show (meetOf t4a t4b).cnt ≤ 200 from (Nat.le_trans (meetOf_cnt t4a t4b) (by have := HC4a.out; have := HC4b.out; omega)))
    have hl15 := lay1 z14 (Obj.cells #[.int .i64 k14, .slice a14 n14 c14] 25)
    have xa14 : ((z14.alloc (Obj.cells #[.int .i64 k14, .slice a14 n14 c14] 25))).cell? ⟨z14.heap.size, 0, none⟩ = some (.int .i64 k14) := by rw [cell_of_block hl15]; rfl
    have xb14 : ((z14.alloc (Obj.cells #[.int .i64 k14, .slice a14 n14 c14] 25))).cell? ⟨z14.heap.size, 1, none⟩ = some (.slice a14 n14 c14) := by rw [cell_of_block hl15]; rfl
    have h015 := Below.refl ((z14.alloc (Obj.cells #[.int .i64 k14, .slice a14 n14 c14] 25))).heap.size (z14.alloc (Obj.cells #[.int .i64 k14, .slice a14 n14 c14] 25))
    clear ht14
    clear hba15 hbb15 hbc15 hl15 hz14
    have EQ17 := hid (show tyEq (meetOf t4a t4b) (meetOf t4a t4b) = true from tyEq_refl (meetOf t4a t4b))
    go_wp2_with fail
    have hc18 := implTypeSame (meetOf t4a t4b) (meetOf t4a t4b) _ _ _ _ _ (by have := HC10.out; omega) (HA10.out.below h015) (HA14.out.below h015) (fun x hx => (HR10.out x hx).below h015) (fun x hx => (HR14.out x hx).below h015)
    rw [EQ17.out] at hc18
    refine hc18.mono ?_
    rintro e z19 ⟨rfl, hz19⟩
    have hq19 := below_trans h015 hz19
    replace xa4a := cell_keep xa4a hz19
    replace xb4a := cell_keep xb4a hz19
    replace xa4b := cell_keep xa4b hz19
    replace xb4b := cell_keep xb4b hz19
    replace xa10 := cell_keep xa10 hz19
    replace xb10 := cell_keep xb10 hz19
    replace xa14 := cell_keep xa14 hz19
    replace xb14 := cell_keep xb14 hz19
    clear hc18 hz19
    go_wp2_with fail
    refine (drawChain_any a01 n01 cap01 _ (HBY1.out.below (below_trans HBL.out hq19)) HNN1.out HMM1.out).mono ?_
    rintro e z21 ⟨t21a, t21b, t21c, v21a, v21b, v21c, f21a, f21b, f21c, rfl, ht21a, ht21b, ht21c, ⟨hs21, hg21a, hg21b, hs21b⟩, hz21⟩
    obtain ⟨k21a, n21a, a21a, c21a, rfl⟩ := ht21a.agg
    obtain ⟨k21b, n21b, a21b, c21b, rfl⟩ := ht21b.agg
    obtain ⟨k21c, n21c, a21c, c21c, rfl⟩ := ht21c.agg
    have hba22 : Below z21.heap.size z21 (((z21.alloc (Obj.cells #[.int .i64 k21a, .slice a21a n21a c21a] 25)).alloc (Obj.cells #[.int .i64 k21b, .slice a21b n21b c21b] 25)).alloc (Obj.cells #[.int .i64 k21c, .slice a21c n21c c21c] 25)) := ((((Below.refl _ _).alloc (Nat.le_refl _) _).alloc (by simp) _).alloc (by simp; omega) _)
    have hbb22 := below_trans hz21 hba22
    have hbc22 := below_trans hq19 hbb22
    replace HA4a := hid (HA4a.out.below hbc22)
    replace HR4a := hid (fun x hx => (HR4a.out x hx).below hbc22)
    replace HA4b := hid (HA4b.out.below hbc22)
    replace HR4b := hid (fun x hx => (HR4b.out x hx).below hbc22)
    replace HA10 := hid (HA10.out.below hbc22)
    replace HR10 := hid (fun x hx => (HR10.out x hx).below hbc22)
    replace HA14 := hid (HA14.out.below hbc22)
    replace HR14 := hid (fun x hx => (HR14.out x hx).below hbc22)
    replace HBL := hid (below_trans HBL.out hbc22)
    replace xa4a := cell_keep xa4a hbb22
    replace xb4a := cell_keep xb4a hbb22
    replace xa4b := cell_keep xa4b hbb22
    replace xb4b := cell_keep xb4b hbb22
    replace xa10 := cell_keep xa10 hbb22
    replace xb10 := cell_keep xb10 hbb22
    replace xa14 := cell_keep xa14 hbb22
    replace xb14 := cell_keep xb14 hbb22
    have HA21a := hid (ht21a.below hba22)
    have HR21a := hid (show ∀ x ∈ f21a, Raw (((z21.alloc (Obj.cells #[.int .i64 k21a, .slice a21a n21a c21a] 25)).alloc (Obj.cells #[.int .i64 k21b, .slice a21b n21b c21b] 25)).alloc (Obj.cells #[.int .i64 k21c, .slice a21c n21c c21c] 25)) x from fun x hx => Raw.below ⟨ht21a.laid x hx, hg21a x hx⟩ hba22)
    have HC21a := hid (show (t21a).cnt ≤ 100 from hs21)
    have HA21b := hid (ht21b.below hba22)
    have HR21b := hid (show ∀ x ∈ f21b, Raw (((z21.alloc (Obj.cells #[.int .i64 k21a, .slice a21a n21a c21a] 25)).alloc (Obj.cells #[.int .i64 k21b, .slice a21b n21b c21b] 25)).alloc (Obj.cells #[.int .i64 k21c, .slice a21c n21c c21c] 25)) x from fun x hx => Raw.below ⟨ht21b.laid x hx, hg21b x hx⟩ hba22)
    have HC21b := hid (show (t21b).cnt ≤ 100 from hs21b)
    have HA21c := hid (ht21c.below hba22)
    have hl22 := lay3 z21 (Obj.cells #[.int .i64 k21a, .slice a21a n21a c21a] 25) (Obj.cells #[.int .i64 k21b, .slice a21b n21b c21b] 25) (Obj.cells #[.int .i64 k21c, .slice a21c n21c c21c] 25)
    have xa21a : ((((z21.alloc (Obj.cells #[.int .i64 k21a, .slice a21a n21a c21a] 25)).alloc (Obj.cells #[.int .i64 k21b, .slice a21b n21b c21b] 25)).alloc (Obj.cells #[.int .i64 k21c, .slice a21c n21c c21c] 25))).cell? ⟨z21.heap.size, 0, none⟩ = some (.int .i64 k21a) := by rw [cell_of_block hl22.1]; rfl
    have xb21a : ((((z21.alloc (Obj.cells #[.int .i64 k21a, .slice a21a n21a c21a] 25)).alloc (Obj.cells #[.int .i64 k21b, .slice a21b n21b c21b] 25)).alloc (Obj.cells #[.int .i64 k21c, .slice a21c n21c c21c] 25))).cell? ⟨z21.heap.size, 1, none⟩ = some (.slice a21a n21a c21a) := by rw [cell_of_block hl22.1]; rfl
    have xa21b : ((((z21.alloc (Obj.cells #[.int .i64 k21a, .slice a21a n21a c21a] 25)).alloc (Obj.cells #[.int .i64 k21b, .slice a21b n21b c21b] 25)).alloc (Obj.cells #[.int .i64 k21c, .slice a21c n21c c21c] 25))).cell? ⟨z21.heap.size + 1, 0, none⟩ = some (.int .i64 k21b) := by rw [cell_of_block hl22.2.1]; rfl
    have xb21b : ((((z21.alloc (Obj.cells #[.int .i64 k21a, .slice a21a n21a c21a] 25)).alloc (Obj.cells #[.int .i64 k21b, .slice a21b n21b c21b] 25)).alloc (Obj.cells #[.int .i64 k21c, .slice a21c n21c c21c] 25))).cell? ⟨z21.heap.size + 1, 1, none⟩ = some (.slice a21b n21b c21b) := by rw [cell_of_block hl22.2.1]; rfl
    have xa21c : ((((z21.alloc (Obj.cells #[.int .i64 k21a, .slice a21a n21a c21a] 25)).alloc (Obj.cells #[.int .i64 k21b, .slice a21b n21b c21b] 25)).alloc (Obj.cells #[.int .i64 k21c, .slice a21c n21c c21c] 25))).cell? ⟨z21.heap.size + 1 + 1, 0, none⟩ = some (.int .i64 k21c) := by rw [cell_of_block hl22.2.2]; rfl
    have xb21c : ((((z21.alloc (Obj.cells #[.int .i64 k21a, .slice a21a n21a c21a] 25)).alloc (Obj.cells #[.int .i64 k21b, .slice a21b n21b c21b] 25)).alloc (Obj.cells #[.int .i64 k21c, .slice a21c n21c c21c] 25))).cell? ⟨z21.heap.size + 1 + 1, 1, none⟩ = some (.slice a21c n21c c21c) := by rw [cell_of_block hl22.2.2]; rfl
    have h022 := Below.refl ((((z21.alloc (Obj.cells #[.int .i64 k21a, .slice a21a n21a c21a] 25)).alloc (Obj.cells #[.int .i64 k21b, .slice a21b n21b c21b] 25)).alloc (Obj.cells #[.int .i64 k21c, .slice a21c n21c c21c] 25))).heap.size (((z21.alloc (Obj.cells #[.int .i64 k21a, .slice a21a n21a c21a] 25)).alloc (Obj.cells #[.int .i64 k21b, .slice a21b n21b c21b] 25)).alloc (Obj.cells #[.int .i64 k21c, .slice a21c n21c c21c] 25))
    clear ht21a
    clear ht21b
    clear ht21c
    clear hba22 hbb22 hbc22 hl22 hz21
    rcases Bool.eq_false_or_eq_true (consOf (meetOf t4a t4b) t21b) with hq24 | hq24
    · have EQ24 := hid hq24
      clear hq24
      go_wp2_with fail
      have hc26 := implMeetTypes (meetOf t4a t4b) t21b _ _ _ _ _ (HA10.out.below h022) (HA21b.out.below h022) (by have := HC10.out; omega) (by have := HC21b.out; omega)
      rw [EQ24.out] at hc26
      refine hc26.mono ?_
      rintro e z27 ⟨v27, f27, rfl, ht27, hf27, hz27⟩
      obtain ⟨k27, n27, a27, c27, rfl⟩ := ht27.agg
      clear hc26
      have hba28 : Below z27.heap.size z27 (z27.alloc (Obj.cells #[.int .i64 k27, .slice a27 n27 c27] 25)) := ((Below.refl _ _).alloc (Nat.le_refl _) _)
      have hbb28 := below_trans hz27 hba28
      have hbc28 := below_trans h022 hbb28
      replace HA4a := hid (HA4a.out.below hbc28)
      replace HR4a := hid (fun x hx => (HR4a.out x hx).below hbc28)
      replace HA4b := hid (HA4b.out.below hbc28)
      replace HR4b := hid (fun x hx => (HR4b.out x hx).below hbc28)
      replace HA10 := hid (HA10.out.below hbc28)
      replace HR10 := hid (fun x hx => (HR10.out x hx).below hbc28)
      replace HA14 := hid (HA14.out.below hbc28)
      replace HR14 := hid (fun x hx => (HR14.out x hx).below hbc28)
      replace HA21a := hid (HA21a.out.below hbc28)
      replace HR21a := hid (fun x hx => (HR21a.out x hx).below hbc28)
      replace HA21b := hid (HA21b.out.below hbc28)
      replace HR21b := hid (fun x hx => (HR21b.out x hx).below hbc28)
      replace HA21c := hid (HA21c.out.below hbc28)
      replace HBL := hid (below_trans HBL.out hbc28)
      replace xa4a := cell_keep xa4a hbb28
      replace xb4a := cell_keep xb4a hbb28
      replace xa4b := cell_keep xa4b hbb28
      replace xb4b := cell_keep xb4b hbb28
      replace xa10 := cell_keep xa10 hbb28
      replace xb10 := cell_keep xb10 hbb28
      replace xa14 := cell_keep xa14 hbb28
      replace xb14 := cell_keep xb14 hbb28
      replace xa21a := cell_keep xa21a hbb28
      replace xb21a := cell_keep xb21a hbb28
      replace xa21b := cell_keep xa21b hbb28
      replace xb21b := cell_keep xb21b hbb28
      replace xa21c := cell_keep xa21c hbb28
      replace xb21c := cell_keep xb21c hbb28
      have HA27 := hid (ht27.below hba28)
      have HR27 := hid (show ∀ x ∈ f27, Raw (z27.alloc (Obj.cells #[.int .i64 k27, .slice a27 n27 c27] 25)) x from fun x hx => Raw.below (Fresh.raw ht27 hf27 x hx) hba28)
      have HC27 := hid (show (meetOf (meetOf t4a t4b) t21b).cnt ≤ 300 from (Nat.le_trans (meetOf_cnt (meetOf t4a t4b) t21b) (by have := HC10.out; have := HC21b.out; omega)))
      have hl28 := lay1 z27 (Obj.cells #[.int .i64 k27, .slice a27 n27 c27] 25)
      have xa27 : ((z27.alloc (Obj.cells #[.int .i64 k27, .slice a27 n27 c27] 25))).cell? ⟨z27.heap.size, 0, none⟩ = some (.int .i64 k27) := by rw [cell_of_block hl28]; rfl
      have xb27 : ((z27.alloc (Obj.cells #[.int .i64 k27, .slice a27 n27 c27] 25))).cell? ⟨z27.heap.size, 1, none⟩ = some (.slice a27 n27 c27) := by rw [cell_of_block hl28]; rfl
      have h028 := Below.refl ((z27.alloc (Obj.cells #[.int .i64 k27, .slice a27 n27 c27] 25))).heap.size (z27.alloc (Obj.cells #[.int .i64 k27, .slice a27 n27 c27] 25))
      clear ht27
      clear hba28 hbb28 hbc28 hl28 hz27
      have EQ30 := hid (show consOf t4b t21b = true from (by have h := EQ24.out; rw [(meetOf_assoc t4a t4b t21b EQ7.out).1, Bool.and_eq_true] at h; exact h.1))
      go_wp2_with fail
      have hc31 := implMeetTypes t4b t21b _ _ _ _ _ (HA4b.out.below h028) (HA21b.out.below h028) (by have := HC4b.out; omega) (by have := HC21b.out; omega)
      rw [EQ30.out] at hc31
      refine hc31.mono ?_
      rintro e z32 ⟨v32, f32, rfl, ht32, hf32, hz32⟩
      obtain ⟨k32, n32, a32, c32, rfl⟩ := ht32.agg
      clear hc31
      have hba33 : Below z32.heap.size z32 (z32.alloc (Obj.cells #[.int .i64 k32, .slice a32 n32 c32] 25)) := ((Below.refl _ _).alloc (Nat.le_refl _) _)
      have hbb33 := below_trans hz32 hba33
      have hbc33 := below_trans h028 hbb33
      replace HA4a := hid (HA4a.out.below hbc33)
      replace HR4a := hid (fun x hx => (HR4a.out x hx).below hbc33)
      replace HA4b := hid (HA4b.out.below hbc33)
      replace HR4b := hid (fun x hx => (HR4b.out x hx).below hbc33)
      replace HA10 := hid (HA10.out.below hbc33)
      replace HR10 := hid (fun x hx => (HR10.out x hx).below hbc33)
      replace HA14 := hid (HA14.out.below hbc33)
      replace HR14 := hid (fun x hx => (HR14.out x hx).below hbc33)
      replace HA21a := hid (HA21a.out.below hbc33)
      replace HR21a := hid (fun x hx => (HR21a.out x hx).below hbc33)
      replace HA21b := hid (HA21b.out.below hbc33)
      replace HR21b := hid (fun x hx => (HR21b.out x hx).below hbc33)
      replace HA21c := hid (HA21c.out.below hbc33)
      replace HA27 := hid (HA27.out.below hbc33)
      replace HR27 := hid (fun x hx => (HR27.out x hx).below hbc33)
      replace HBL := hid (below_trans HBL.out hbc33)
      replace xa4a := cell_keep xa4a hbb33
      replace xb4a := cell_keep xb4a hbb33
      replace xa4b := cell_keep xa4b hbb33
      replace xb4b := cell_keep xb4b hbb33
      replace xa10 := cell_keep xa10 hbb33
      replace xb10 := cell_keep xb10 hbb33
      replace xa14 := cell_keep xa14 hbb33
      replace xb14 := cell_keep xb14 hbb33
      replace xa21a := cell_keep xa21a hbb33
      replace xb21a := cell_keep xb21a hbb33
      replace xa21b := cell_keep xa21b hbb33
      replace xb21b := cell_keep xb21b hbb33
      replace xa21c := cell_keep xa21c hbb33
      replace xb21c := cell_keep xb21c hbb33
      replace xa27 := cell_keep xa27 hbb33
      replace xb27 := cell_keep xb27 hbb33
      have HA32 := hid (ht32.below hba33)
      have HR32 := hid (show ∀ x ∈ f32, Raw (z32.alloc (Obj.cells #[.int .i64 k32, .slice a32 n32 c32] 25)) x from fun x hx => Raw.below (Fresh.raw ht32 hf32 x hx) hba33)
      have HC32 := hid (show (meetOf t4b t21b).cnt ≤ 200 from (Nat.le_trans (meetOf_cnt t4b t21b) (by have := HC4b.out; have := HC21b.out; omega)))
      have hl33 := lay1 z32 (Obj.cells #[.int .i64 k32, .slice a32 n32 c32] 25)
      have xa32 : ((z32.alloc (Obj.cells #[.int .i64 k32, .slice a32 n32 c32] 25))).cell? ⟨z32.heap.size, 0, none⟩ = some (.int .i64 k32) := by rw [cell_of_block hl33]; rfl
      have xb32 : ((z32.alloc (Obj.cells #[.int .i64 k32, .slice a32 n32 c32] 25))).cell? ⟨z32.heap.size, 1, none⟩ = some (.slice a32 n32 c32) := by rw [cell_of_block hl33]; rfl
      have h033 := Below.refl ((z32.alloc (Obj.cells #[.int .i64 k32, .slice a32 n32 c32] 25))).heap.size (z32.alloc (Obj.cells #[.int .i64 k32, .slice a32 n32 c32] 25))
      clear ht32
      clear hba33 hbb33 hbc33 hl33 hz32
      have EQ35 := hid (show consOf t4a (meetOf t4b t21b) = true from (by have h := EQ24.out; rw [(meetOf_assoc t4a t4b t21b EQ7.out).1, Bool.and_eq_true] at h; exact h.2))
      go_wp2_with fail
      have hc36 := implMeetTypes t4a (meetOf t4b t21b) _ _ _ _ _ (HA4a.out.below h033) (HA32.out.below h033) (by have := HC4a.out; omega) (by have := HC32.out; omega)
      rw [EQ35.out] at hc36
      refine hc36.mono ?_
      rintro e z37 ⟨v37, f37, rfl, ht37, hf37, hz37⟩
      obtain ⟨k37, n37, a37, c37, rfl⟩ := ht37.agg
      clear hc36
      have hba38 : Below z37.heap.size z37 (z37.alloc (Obj.cells #[.int .i64 k37, .slice a37 n37 c37] 25)) := ((Below.refl _ _).alloc (Nat.le_refl _) _)
      have hbb38 := below_trans hz37 hba38
      have hbc38 := below_trans h033 hbb38
      replace HA4a := hid (HA4a.out.below hbc38)
      replace HR4a := hid (fun x hx => (HR4a.out x hx).below hbc38)
      replace HA4b := hid (HA4b.out.below hbc38)
      replace HR4b := hid (fun x hx => (HR4b.out x hx).below hbc38)
      replace HA10 := hid (HA10.out.below hbc38)
      replace HR10 := hid (fun x hx => (HR10.out x hx).below hbc38)
      replace HA14 := hid (HA14.out.below hbc38)
      replace HR14 := hid (fun x hx => (HR14.out x hx).below hbc38)
      replace HA21a := hid (HA21a.out.below hbc38)
      replace HR21a := hid (fun x hx => (HR21a.out x hx).below hbc38)
      replace HA21b := hid (HA21b.out.below hbc38)
      replace HR21b := hid (fun x hx => (HR21b.out x hx).below hbc38)
      replace HA21c := hid (HA21c.out.below hbc38)
      replace HA27 := hid (HA27.out.below hbc38)
      replace HR27 := hid (fun x hx => (HR27.out x hx).below hbc38)
      replace HA32 := hid (HA32.out.below hbc38)
      replace HR32 := hid (fun x hx => (HR32.out x hx).below hbc38)
      replace HBL := hid (below_trans HBL.out hbc38)
      replace xa4a := cell_keep xa4a hbb38
      replace xb4a := cell_keep xb4a hbb38
      replace xa4b := cell_keep xa4b hbb38
      replace xb4b := cell_keep xb4b hbb38
      replace xa10 := cell_keep xa10 hbb38
      replace xb10 := cell_keep xb10 hbb38
      replace xa14 := cell_keep xa14 hbb38
      replace xb14 := cell_keep xb14 hbb38
      replace xa21a := cell_keep xa21a hbb38
      replace xb21a := cell_keep xb21a hbb38
      replace xa21b := cell_keep xa21b hbb38
      replace xb21b := cell_keep xb21b hbb38
      replace xa21c := cell_keep xa21c hbb38
      replace xb21c := cell_keep xb21c hbb38
      replace xa27 := cell_keep xa27 hbb38
      replace xb27 := cell_keep xb27 hbb38
      replace xa32 := cell_keep xa32 hbb38
      replace xb32 := cell_keep xb32 hbb38
      have HA37 := hid (ht37.below hba38)
      have HR37 := hid (show ∀ x ∈ f37, Raw (z37.alloc (Obj.cells #[.int .i64 k37, .slice a37 n37 c37] 25)) x from fun x hx => Raw.below (Fresh.raw ht37 hf37 x hx) hba38)
      have HC37 := hid (show (meetOf t4a (meetOf t4b t21b)).cnt ≤ 300 from (Nat.le_trans (meetOf_cnt t4a (meetOf t4b t21b)) (by have := HC4a.out; have := HC32.out; omega)))
      have hl38 := lay1 z37 (Obj.cells #[.int .i64 k37, .slice a37 n37 c37] 25)
      have xa37 : ((z37.alloc (Obj.cells #[.int .i64 k37, .slice a37 n37 c37] 25))).cell? ⟨z37.heap.size, 0, none⟩ = some (.int .i64 k37) := by rw [cell_of_block hl38]; rfl
      have xb37 : ((z37.alloc (Obj.cells #[.int .i64 k37, .slice a37 n37 c37] 25))).cell? ⟨z37.heap.size, 1, none⟩ = some (.slice a37 n37 c37) := by rw [cell_of_block hl38]; rfl
      have h038 := Below.refl ((z37.alloc (Obj.cells #[.int .i64 k37, .slice a37 n37 c37] 25))).heap.size (z37.alloc (Obj.cells #[.int .i64 k37, .slice a37 n37 c37] 25))
      clear ht37
      clear hba38 hbb38 hbc38 hl38 hz37
      rcases Bool.eq_false_or_eq_true (precOf t4a t4b) with hq40 | hq40
      · have EQ40 := hid hq40
        clear hq40
        have EQ44 := hid (show tyEq (meetOf t4a t4b) t4a = true from (by rw [← (meetOf_glb t4a t4b EQ7.out).2.2.2.2.2.2]; exact EQ40.out))
        have EQ47 := hid (show tyEq (meetOf (meetOf t4a t4b) t21b) (meetOf t4a (meetOf t4b t21b)) = true from (by rw [(meetOf_assoc t4a t4b t21b EQ7.out).2 EQ24.out]; exact tyEq_refl _))
        go_wp2_with fail
        refine wp_region_held_drew (S := (fun w' => Below ((z37.alloc (Obj.cells #[.int .i64 k37, .slice a37 n37 c37] 25))).heap.size ((z37.alloc (Obj.cells #[.int .i64 k37, .slice a37 n37 c37] 25))) w' ∧ w'.cell? ⟨z4.heap.size, 0, none⟩ = some (.int .i64 k4a) ∧ w'.cell? ⟨z4.heap.size, 1, none⟩ = some (.slice a4a n4a c4a) ∧ w'.cell? ⟨z4.heap.size + 1, 0, none⟩ = some (.int .i64 k4b) ∧ w'.cell? ⟨z4.heap.size + 1, 1, none⟩ = some (.slice a4b n4b c4b) ∧ w'.cell? ⟨z10.heap.size, 0, none⟩ = some (.int .i64 k10) ∧ w'.cell? ⟨z10.heap.size, 1, none⟩ = some (.slice a10 n10 c10) ∧ w'.cell? ⟨z14.heap.size, 0, none⟩ = some (.int .i64 k14) ∧ w'.cell? ⟨z14.heap.size, 1, none⟩ = some (.slice a14 n14 c14) ∧ w'.cell? ⟨z21.heap.size, 0, none⟩ = some (.int .i64 k21a) ∧ w'.cell? ⟨z21.heap.size, 1, none⟩ = some (.slice a21a n21a c21a) ∧ w'.cell? ⟨z21.heap.size + 1, 0, none⟩ = some (.int .i64 k21b) ∧ w'.cell? ⟨z21.heap.size + 1, 1, none⟩ = some (.slice a21b n21b c21b) ∧ w'.cell? ⟨z21.heap.size + 1 + 1, 0, none⟩ = some (.int .i64 k21c) ∧ w'.cell? ⟨z21.heap.size + 1 + 1, 1, none⟩ = some (.slice a21c n21c c21c) ∧ w'.cell? ⟨z27.heap.size, 0, none⟩ = some (.int .i64 k27) ∧ w'.cell? ⟨z27.heap.size, 1, none⟩ = some (.slice a27 n27 c27) ∧ w'.cell? ⟨z32.heap.size, 0, none⟩ = some (.int .i64 k32) ∧ w'.cell? ⟨z32.heap.size, 1, none⟩ = some (.slice a32 n32 c32) ∧ w'.cell? ⟨z37.heap.size, 0, none⟩ = some (.int .i64 k37) ∧ w'.cell? ⟨z37.heap.size, 1, none⟩ = some (.slice a37 n37 c37))) (by kernel_rfl) ?_ (fun hS0 => ?_)
        · (refine (fun hB => ⟨hB, cell_keep xa4a hB, cell_keep xb4a hB, cell_keep xa4b hB, cell_keep xb4b hB, cell_keep xa10 hB, cell_keep xb10 hB, cell_keep xa14 hB, cell_keep xb14 hB, cell_keep xa21a hB, cell_keep xb21a hB, cell_keep xa21b hB, cell_keep xb21b hB, cell_keep xa21c hB, cell_keep xb21c hB, cell_keep xa27 hB, cell_keep xb27 hB, cell_keep xa32 hB, cell_keep xb32 hB, cell_keep xa37 hB, cell_keep xb37 hB⟩ : Below ((z37.alloc (Obj.cells #[.int .i64 k37, .slice a37 n37 c37] 25))).heap.size ((z37.alloc (Obj.cells #[.int .i64 k37, .slice a37 n37 c37] 25))) _ → _) ?_; exact below_drew _)
        refine regTake (i := 0) (v := ?vg41_0) rfl (by kernel_rfl) (by kernel_rfl) (by kernel_rfl) (fun _ _ _ h => h) (Or.inl ⟨by rfl, ?hyg41_0⟩) (by assumption) ?_
        case hyg41_0 => (intro w hSw; (try dsimp only at hSw); go_simp; (try with_reducible rfl))
        try simp only [Act.put, List.setIfInBounds_toArray, List.set_cons_zero, List.set_cons_succ]
        refine regTake (i := 1) (v := ?vg41_1) rfl (by kernel_rfl) (by kernel_rfl) (by kernel_rfl) (fun _ _ _ h => h) (Or.inl ⟨by rfl, ?hyg41_1⟩) (by assumption) ?_
        case hyg41_1 => (intro w hSw; (try dsimp only at hSw); go_simp; (try with_reducible rfl))
        try simp only [Act.put, List.setIfInBounds_toArray, List.set_cons_zero, List.set_cons_succ]
        refine regTake (i := 3) (v := ?vg41_3) rfl (by kernel_rfl) (by kernel_rfl) (by kernel_rfl) (fun _ _ _ h => h) (Or.inl ⟨by rfl, ?hyg41_3⟩) (by assumption) ?_
        case hyg41_3 => (intro w hSw; (try dsimp only at hSw); go_simp; (try with_reducible rfl))
        try simp only [Act.put, List.setIfInBounds_toArray, List.set_cons_zero, List.set_cons_succ]
        refine regTake (i := 4) (v := ?vg41_4) rfl (by kernel_rfl) (by kernel_rfl) (by kernel_rfl) (fun _ _ _ h => h) (Or.inl ⟨by rfl, ?hyg41_4⟩) (by assumption) ?_
        case hyg41_4 => (intro w hSw; (try dsimp only at hSw); go_simp; (try with_reducible rfl))
        try simp only [Act.put, List.setIfInBounds_toArray, List.set_cons_zero, List.set_cons_succ]
        refine wpAnyH_ready (rs := [2]) (by kernel_rfl) (by simp) ?_
        refine regCons rfl (fun K hK => ?_)
        go_simp
        have hc42 := implPrecise t4a t4b _ _ _ _ _ (HA4a.out.below (below_trans h038 (below_drew ((z37.alloc (Obj.cells #[.int .i64 k37, .slice a37 n37 c37] 25)))))) (HA4b.out.below (below_trans h038 (below_drew ((z37.alloc (Obj.cells #[.int .i64 k37, .slice a37 n37 c37] 25))))))
        rw [EQ40.out] at hc42
        refine hc42.mono ?_
        rintro e yg41_0 ⟨rfl, hyg41_0⟩
        have hkg41_0 := below_trans (below_drew ((z37.alloc (Obj.cells #[.int .i64 k37, .slice a37 n37 c37] 25)))) hyg41_0
        clear hc42
        refine hK.out _ _ ?_ (fun hS1 => ?_)
        · (refine (fun hB => ⟨hB, cell_keep xa4a hB, cell_keep xb4a hB, cell_keep xa4b hB, cell_keep xb4b hB, cell_keep xa10 hB, cell_keep xb10 hB, cell_keep xa14 hB, cell_keep xb14 hB, cell_keep xa21a hB, cell_keep xb21a hB, cell_keep xa21b hB, cell_keep xb21b hB, cell_keep xa21c hB, cell_keep xb21c hB, cell_keep xa27 hB, cell_keep xb27 hB, cell_keep xa32 hB, cell_keep xb32 hB, cell_keep xa37 hB, cell_keep xb37 hB⟩ : Below ((z37.alloc (Obj.cells #[.int .i64 k37, .slice a37 n37 c37] 25))).heap.size ((z37.alloc (Obj.cells #[.int .i64 k37, .slice a37 n37 c37] 25))) _ → _) ?_; exact hkg41_0)
        clear hK K hS0
        try simp only [Act.put, List.setIfInBounds_toArray, List.set_cons_zero, List.set_cons_succ]
        refine wpAnyH_ready (rs := [5]) (by kernel_rfl) (by simp) ?_
        refine regCons rfl (fun K hK => ?_)
        go_simp
        have hc45 := implTypeSame (meetOf t4a t4b) t4a _ _ _ _ _ (by have := HC10.out; omega) (HA10.out.below (below_trans h038 (hkg41_0))) (HA4a.out.below (below_trans h038 (hkg41_0))) (fun x hx => (HR10.out x hx).below (below_trans h038 (hkg41_0))) (fun x hx => (HR4a.out x hx).below (below_trans h038 (hkg41_0)))
        rw [EQ44.out] at hc45
        refine hc45.mono ?_
        rintro e yg41_1 ⟨rfl, hyg41_1⟩
        have hkg41_1 := below_trans (hkg41_0) hyg41_1
        clear hc45
        refine hK.out _ _ ?_ (fun hS2 => ?_)
        · (refine (fun hB => ⟨hB, cell_keep xa4a hB, cell_keep xb4a hB, cell_keep xa4b hB, cell_keep xb4b hB, cell_keep xa10 hB, cell_keep xb10 hB, cell_keep xa14 hB, cell_keep xb14 hB, cell_keep xa21a hB, cell_keep xb21a hB, cell_keep xa21b hB, cell_keep xb21b hB, cell_keep xa21c hB, cell_keep xb21c hB, cell_keep xa27 hB, cell_keep xb27 hB, cell_keep xa32 hB, cell_keep xb32 hB, cell_keep xa37 hB, cell_keep xb37 hB⟩ : Below ((z37.alloc (Obj.cells #[.int .i64 k37, .slice a37 n37 c37] 25))).heap.size ((z37.alloc (Obj.cells #[.int .i64 k37, .slice a37 n37 c37] 25))) _ → _) ?_; exact hkg41_1)
        clear hK K hS1
        try simp only [Act.put, List.setIfInBounds_toArray, List.set_cons_zero, List.set_cons_succ]
        refine regTake (i := 6) (v := ?vg41_6) rfl (by kernel_rfl) (by kernel_rfl) (by kernel_rfl) (fun _ _ _ h => h) (Or.inl ⟨by rfl, ?hyg41_6⟩) (by assumption) ?_
        case hyg41_6 => (intro w hSw; (try dsimp only at hSw); go_simp; (try with_reducible rfl))
        try simp only [Act.put, List.setIfInBounds_toArray, List.set_cons_zero, List.set_cons_succ]
        refine regTake (i := 7) (v := ?vg41_7) rfl (by kernel_rfl) (by kernel_rfl) (by kernel_rfl) (fun _ _ _ h => h) (Or.inl ⟨by rfl, ?hyg41_7⟩) (by assumption) ?_
        case hyg41_7 => (intro w hSw; (try dsimp only at hSw); go_simp; (try with_reducible rfl))
        try simp only [Act.put, List.setIfInBounds_toArray, List.set_cons_zero, List.set_cons_succ]
        refine regTake (i := 8) (v := ?vg41_8) rfl (by kernel_rfl) (by kernel_rfl) (by kernel_rfl) (fun _ _ _ h => h) (Or.inl ⟨by rfl, ?hyg41_8⟩) (by assumption) ?_
        case hyg41_8 => (intro w hSw; (try dsimp only at hSw); go_simp; (try with_reducible rfl))
        try simp only [Act.put, List.setIfInBounds_toArray, List.set_cons_zero, List.set_cons_succ]
        refine regTake (i := 9) (v := ?vg41_9) rfl (by kernel_rfl) (by kernel_rfl) (by kernel_rfl) (fun _ _ _ h => h) (Or.inl ⟨by rfl, ?hyg41_9⟩) (by assumption) ?_
        case hyg41_9 => (intro w hSw; (try dsimp only at hSw); go_simp; (try with_reducible rfl))
        try simp only [Act.put, List.setIfInBounds_toArray, List.set_cons_zero, List.set_cons_succ]
        refine regTake (i := 10) (v := ?vg41_10) rfl (by kernel_rfl) (by kernel_rfl) (by kernel_rfl) (fun _ _ _ h => h) (Or.inl ⟨by rfl, ?hyg41_10⟩) (by assumption) ?_
        case hyg41_10 => (intro w hSw; (try dsimp only at hSw); go_simp; (try with_reducible rfl))
        try simp only [Act.put, List.setIfInBounds_toArray, List.set_cons_zero, List.set_cons_succ]
        refine regTake (i := 11) (v := ?vg41_11) rfl (by kernel_rfl) (by kernel_rfl) (by kernel_rfl) (fun _ _ _ h => h) (Or.inl ⟨by rfl, ?hyg41_11⟩) (by assumption) ?_
        case hyg41_11 => (intro w hSw; (try dsimp only at hSw); go_simp; (try with_reducible rfl))
        try simp only [Act.put, List.setIfInBounds_toArray, List.set_cons_zero, List.set_cons_succ]
        refine regTake (i := 12) (v := .bool true) rfl (by kernel_rfl) (by kernel_rfl) (by kernel_rfl) (fun _ _ _ h => h) (Or.inl ⟨by rfl, ?hyg41_12⟩) (by assumption) ?_
        case hyg41_12 => (intro w hSw; (try dsimp only at hSw); go_simp; (try with_reducible rfl))
        try simp only [Act.put, List.setIfInBounds_toArray, List.set_cons_zero, List.set_cons_succ]
        refine regTake (i := 13) (v := ?vg41_13) rfl (by kernel_rfl) (by kernel_rfl) (by kernel_rfl) (fun _ _ _ h => h) (Or.inl ⟨by rfl, ?hyg41_13⟩) (by assumption) ?_
        case hyg41_13 => (intro w hSw; (try dsimp only at hSw); go_simp; (try with_reducible rfl))
        try simp only [Act.put, List.setIfInBounds_toArray, List.set_cons_zero, List.set_cons_succ]
        refine regTake (i := 14) (v := .bool true) rfl (by kernel_rfl) (by kernel_rfl) (by kernel_rfl) (fun _ _ _ h => h) (Or.inl ⟨by rfl, ?hyg41_14⟩) (by assumption) ?_
        case hyg41_14 => (intro w hSw; (try dsimp only at hSw); go_simp; (try with_reducible rfl))
        try simp only [Act.put, List.setIfInBounds_toArray, List.set_cons_zero, List.set_cons_succ]
        refine regTake (i := 15) (v := ?vg41_15) rfl (by kernel_rfl) (by kernel_rfl) (by kernel_rfl) (fun _ _ _ h => h) (Or.inl ⟨by rfl, ?hyg41_15⟩) (by assumption) ?_
        case hyg41_15 => (intro w hSw; (try dsimp only at hSw); go_simp; (try with_reducible rfl))
        try simp only [Act.put, List.setIfInBounds_toArray, List.set_cons_zero, List.set_cons_succ]
        refine regTake (i := 16) (v := ?vg41_16) rfl (by kernel_rfl) (by kernel_rfl) (by kernel_rfl) (fun _ _ _ h => h) (Or.inl ⟨by rfl, ?hyg41_16⟩) (by assumption) ?_
        case hyg41_16 => (intro w hSw; (try dsimp only at hSw); go_simp; (try with_reducible rfl))
        try simp only [Act.put, List.setIfInBounds_toArray, List.set_cons_zero, List.set_cons_succ]
        refine regTake (i := 17) (v := ?vg41_17) rfl (by kernel_rfl) (by kernel_rfl) (by kernel_rfl) (fun _ _ _ h => h) (Or.inl ⟨by rfl, ?hyg41_17⟩) (by assumption) ?_
        case hyg41_17 => (intro w hSw; (try dsimp only at hSw); go_simp; (try with_reducible rfl))
        try simp only [Act.put, List.setIfInBounds_toArray, List.set_cons_zero, List.set_cons_succ]
        refine regTake (i := 18) (v := ?vg41_18) rfl (by kernel_rfl) (by kernel_rfl) (by kernel_rfl) (fun _ _ _ h => h) (Or.inl ⟨by rfl, ?hyg41_18⟩) (by assumption) ?_
        case hyg41_18 => (intro w hSw; (try dsimp only at hSw); go_simp; (try with_reducible rfl))
        try simp only [Act.put, List.setIfInBounds_toArray, List.set_cons_zero, List.set_cons_succ]
        refine regTake (i := 19) (v := ?vg41_19) rfl (by kernel_rfl) (by kernel_rfl) (by kernel_rfl) (fun _ _ _ h => h) (Or.inl ⟨by rfl, ?hyg41_19⟩) (by assumption) ?_
        case hyg41_19 => (intro w hSw; (try dsimp only at hSw); go_simp; (try with_reducible rfl))
        try simp only [Act.put, List.setIfInBounds_toArray, List.set_cons_zero, List.set_cons_succ]
        refine regTake (i := 20) (v := ?vg41_20) rfl (by kernel_rfl) (by kernel_rfl) (by kernel_rfl) (fun _ _ _ h => h) (Or.inl ⟨by rfl, ?hyg41_20⟩) (by assumption) ?_
        case hyg41_20 => (intro w hSw; (try dsimp only at hSw); go_simp; (try with_reducible rfl))
        try simp only [Act.put, List.setIfInBounds_toArray, List.set_cons_zero, List.set_cons_succ]
        refine wpAnyH_ready (rs := [21]) (by kernel_rfl) (by simp) ?_
        refine regCons rfl (fun K hK => ?_)
        go_simp
        have hc48 := implTypeSame (meetOf (meetOf t4a t4b) t21b) (meetOf t4a (meetOf t4b t21b)) _ _ _ _ _ (by have := HC27.out; omega) (HA27.out.below (below_trans h038 (hkg41_1))) (HA37.out.below (below_trans h038 (hkg41_1))) (fun x hx => (HR27.out x hx).below (below_trans h038 (hkg41_1))) (fun x hx => (HR37.out x hx).below (below_trans h038 (hkg41_1)))
        rw [EQ47.out] at hc48
        refine hc48.mono ?_
        rintro e yg41_2 ⟨rfl, hyg41_2⟩
        have hkg41_2 := below_trans (hkg41_1) hyg41_2
        clear hc48
        refine hK.out _ _ ?_ (fun hS3 => ?_)
        · (refine (fun hB => ⟨hB, cell_keep xa4a hB, cell_keep xb4a hB, cell_keep xa4b hB, cell_keep xb4b hB, cell_keep xa10 hB, cell_keep xb10 hB, cell_keep xa14 hB, cell_keep xb14 hB, cell_keep xa21a hB, cell_keep xb21a hB, cell_keep xa21b hB, cell_keep xb21b hB, cell_keep xa21c hB, cell_keep xb21c hB, cell_keep xa27 hB, cell_keep xb27 hB, cell_keep xa32 hB, cell_keep xb32 hB, cell_keep xa37 hB, cell_keep xb37 hB⟩ : Below ((z37.alloc (Obj.cells #[.int .i64 k37, .slice a37 n37 c37] 25))).heap.size ((z37.alloc (Obj.cells #[.int .i64 k37, .slice a37 n37 c37] 25))) _ → _) ?_; exact hkg41_2)
        clear hK K hS2
        try simp only [Act.put, List.setIfInBounds_toArray, List.set_cons_zero, List.set_cons_succ]
        refine regTake (i := 22) (v := .bool true) rfl (by kernel_rfl) (by kernel_rfl) (by kernel_rfl) (fun _ _ _ h => h) (Or.inl ⟨by rfl, ?hyg41_22⟩) (by assumption) ?_
        case hyg41_22 => (intro w hSw; (try dsimp only at hSw); go_simp; (try with_reducible rfl))
        try simp only [Act.put, List.setIfInBounds_toArray, List.set_cons_zero, List.set_cons_succ]
        refine regTake (i := 23) (v := .bool true) rfl (by kernel_rfl) (by kernel_rfl) (by kernel_rfl) (fun _ _ _ h => h) (Or.inl ⟨by rfl, ?hyg41_23⟩) (by assumption) ?_
        case hyg41_23 => (intro w hSw; (try dsimp only at hSw); go_simp; (try with_reducible rfl))
        try simp only [Act.put, List.setIfInBounds_toArray, List.set_cons_zero, List.set_cons_succ]
        refine regTake (i := 24) (v := ?vg41_24) rfl (by kernel_rfl) (by kernel_rfl) (by kernel_rfl) (fun _ _ _ h => h) (Or.inl ⟨by rfl, ?hyg41_24⟩) (by assumption) ?_
        case hyg41_24 => (intro w hSw; (try dsimp only at hSw); go_simp; (try with_reducible rfl))
        try simp only [Act.put, List.setIfInBounds_toArray, List.set_cons_zero, List.set_cons_succ]
        refine wpAnyH_done (by kernel_rfl) ?_ _
        have hlg41_ := below_trans h038 hkg41_2
        replace xa4a := cell_keep xa4a hkg41_2
        replace xb4a := cell_keep xb4a hkg41_2
        replace xa4b := cell_keep xa4b hkg41_2
        replace xb4b := cell_keep xb4b hkg41_2
        replace xa10 := cell_keep xa10 hkg41_2
        replace xb10 := cell_keep xb10 hkg41_2
        replace xa14 := cell_keep xa14 hkg41_2
        replace xb14 := cell_keep xb14 hkg41_2
        replace xa21a := cell_keep xa21a hkg41_2
        replace xb21a := cell_keep xb21a hkg41_2
        replace xa21b := cell_keep xa21b hkg41_2
        replace xb21b := cell_keep xb21b hkg41_2
        replace xa21c := cell_keep xa21c hkg41_2
        replace xb21c := cell_keep xb21c hkg41_2
        replace xa27 := cell_keep xa27 hkg41_2
        replace xb27 := cell_keep xb27 hkg41_2
        replace xa32 := cell_keep xa32 hkg41_2
        replace xb32 := cell_keep xb32 hkg41_2
        replace xa37 := cell_keep xa37 hkg41_2
        replace xb37 := cell_keep xb37 hkg41_2
        go_wp2_with fail
        go_ret
        exact ⟨rfl, below_trans HBL.out hlg41_⟩
      · have EQ40 := hid hq40
        clear hq40
        have EQ53 := hid (show tyEq (meetOf t4a t4b) t4a = false from (by rw [← (meetOf_glb t4a t4b EQ7.out).2.2.2.2.2.2]; exact EQ40.out))
        have EQ56 := hid (show tyEq (meetOf (meetOf t4a t4b) t21b) (meetOf t4a (meetOf t4b t21b)) = true from (by rw [(meetOf_assoc t4a t4b t21b EQ7.out).2 EQ24.out]; exact tyEq_refl _))
        go_wp2_with fail
        refine wp_region_held_drew (S := (fun w' => Below ((z37.alloc (Obj.cells #[.int .i64 k37, .slice a37 n37 c37] 25))).heap.size ((z37.alloc (Obj.cells #[.int .i64 k37, .slice a37 n37 c37] 25))) w' ∧ w'.cell? ⟨z4.heap.size, 0, none⟩ = some (.int .i64 k4a) ∧ w'.cell? ⟨z4.heap.size, 1, none⟩ = some (.slice a4a n4a c4a) ∧ w'.cell? ⟨z4.heap.size + 1, 0, none⟩ = some (.int .i64 k4b) ∧ w'.cell? ⟨z4.heap.size + 1, 1, none⟩ = some (.slice a4b n4b c4b) ∧ w'.cell? ⟨z10.heap.size, 0, none⟩ = some (.int .i64 k10) ∧ w'.cell? ⟨z10.heap.size, 1, none⟩ = some (.slice a10 n10 c10) ∧ w'.cell? ⟨z14.heap.size, 0, none⟩ = some (.int .i64 k14) ∧ w'.cell? ⟨z14.heap.size, 1, none⟩ = some (.slice a14 n14 c14) ∧ w'.cell? ⟨z21.heap.size, 0, none⟩ = some (.int .i64 k21a) ∧ w'.cell? ⟨z21.heap.size, 1, none⟩ = some (.slice a21a n21a c21a) ∧ w'.cell? ⟨z21.heap.size + 1, 0, none⟩ = some (.int .i64 k21b) ∧ w'.cell? ⟨z21.heap.size + 1, 1, none⟩ = some (.slice a21b n21b c21b) ∧ w'.cell? ⟨z21.heap.size + 1 + 1, 0, none⟩ = some (.int .i64 k21c) ∧ w'.cell? ⟨z21.heap.size + 1 + 1, 1, none⟩ = some (.slice a21c n21c c21c) ∧ w'.cell? ⟨z27.heap.size, 0, none⟩ = some (.int .i64 k27) ∧ w'.cell? ⟨z27.heap.size, 1, none⟩ = some (.slice a27 n27 c27) ∧ w'.cell? ⟨z32.heap.size, 0, none⟩ = some (.int .i64 k32) ∧ w'.cell? ⟨z32.heap.size, 1, none⟩ = some (.slice a32 n32 c32) ∧ w'.cell? ⟨z37.heap.size, 0, none⟩ = some (.int .i64 k37) ∧ w'.cell? ⟨z37.heap.size, 1, none⟩ = some (.slice a37 n37 c37))) (by kernel_rfl) ?_ (fun hS0 => ?_)
        · (refine (fun hB => ⟨hB, cell_keep xa4a hB, cell_keep xb4a hB, cell_keep xa4b hB, cell_keep xb4b hB, cell_keep xa10 hB, cell_keep xb10 hB, cell_keep xa14 hB, cell_keep xb14 hB, cell_keep xa21a hB, cell_keep xb21a hB, cell_keep xa21b hB, cell_keep xb21b hB, cell_keep xa21c hB, cell_keep xb21c hB, cell_keep xa27 hB, cell_keep xb27 hB, cell_keep xa32 hB, cell_keep xb32 hB, cell_keep xa37 hB, cell_keep xb37 hB⟩ : Below ((z37.alloc (Obj.cells #[.int .i64 k37, .slice a37 n37 c37] 25))).heap.size ((z37.alloc (Obj.cells #[.int .i64 k37, .slice a37 n37 c37] 25))) _ → _) ?_; exact below_drew _)
        refine regTake (i := 0) (v := ?vg50_0) rfl (by kernel_rfl) (by kernel_rfl) (by kernel_rfl) (fun _ _ _ h => h) (Or.inl ⟨by rfl, ?hyg50_0⟩) (by assumption) ?_
        case hyg50_0 => (intro w hSw; (try dsimp only at hSw); go_simp; (try with_reducible rfl))
        try simp only [Act.put, List.setIfInBounds_toArray, List.set_cons_zero, List.set_cons_succ]
        refine regTake (i := 1) (v := ?vg50_1) rfl (by kernel_rfl) (by kernel_rfl) (by kernel_rfl) (fun _ _ _ h => h) (Or.inl ⟨by rfl, ?hyg50_1⟩) (by assumption) ?_
        case hyg50_1 => (intro w hSw; (try dsimp only at hSw); go_simp; (try with_reducible rfl))
        try simp only [Act.put, List.setIfInBounds_toArray, List.set_cons_zero, List.set_cons_succ]
        refine regTake (i := 3) (v := ?vg50_3) rfl (by kernel_rfl) (by kernel_rfl) (by kernel_rfl) (fun _ _ _ h => h) (Or.inl ⟨by rfl, ?hyg50_3⟩) (by assumption) ?_
        case hyg50_3 => (intro w hSw; (try dsimp only at hSw); go_simp; (try with_reducible rfl))
        try simp only [Act.put, List.setIfInBounds_toArray, List.set_cons_zero, List.set_cons_succ]
        refine regTake (i := 4) (v := ?vg50_4) rfl (by kernel_rfl) (by kernel_rfl) (by kernel_rfl) (fun _ _ _ h => h) (Or.inl ⟨by rfl, ?hyg50_4⟩) (by assumption) ?_
        case hyg50_4 => (intro w hSw; (try dsimp only at hSw); go_simp; (try with_reducible rfl))
        try simp only [Act.put, List.setIfInBounds_toArray, List.set_cons_zero, List.set_cons_succ]
        refine wpAnyH_ready (rs := [2]) (by kernel_rfl) (by simp) ?_
        refine regCons rfl (fun K hK => ?_)
        go_simp
        have hc51 := implPrecise t4a t4b _ _ _ _ _ (HA4a.out.below (below_trans h038 (below_drew ((z37.alloc (Obj.cells #[.int .i64 k37, .slice a37 n37 c37] 25)))))) (HA4b.out.below (below_trans h038 (below_drew ((z37.alloc (Obj.cells #[.int .i64 k37, .slice a37 n37 c37] 25))))))
        rw [EQ40.out] at hc51
        refine hc51.mono ?_
        rintro e yg50_0 ⟨rfl, hyg50_0⟩
        have hkg50_0 := below_trans (below_drew ((z37.alloc (Obj.cells #[.int .i64 k37, .slice a37 n37 c37] 25)))) hyg50_0
        clear hc51
        refine hK.out _ _ ?_ (fun hS1 => ?_)
        · (refine (fun hB => ⟨hB, cell_keep xa4a hB, cell_keep xb4a hB, cell_keep xa4b hB, cell_keep xb4b hB, cell_keep xa10 hB, cell_keep xb10 hB, cell_keep xa14 hB, cell_keep xb14 hB, cell_keep xa21a hB, cell_keep xb21a hB, cell_keep xa21b hB, cell_keep xb21b hB, cell_keep xa21c hB, cell_keep xb21c hB, cell_keep xa27 hB, cell_keep xb27 hB, cell_keep xa32 hB, cell_keep xb32 hB, cell_keep xa37 hB, cell_keep xb37 hB⟩ : Below ((z37.alloc (Obj.cells #[.int .i64 k37, .slice a37 n37 c37] 25))).heap.size ((z37.alloc (Obj.cells #[.int .i64 k37, .slice a37 n37 c37] 25))) _ → _) ?_; exact hkg50_0)
        clear hK K hS0
        try simp only [Act.put, List.setIfInBounds_toArray, List.set_cons_zero, List.set_cons_succ]
        refine wpAnyH_ready (rs := [5]) (by kernel_rfl) (by simp) ?_
        refine regCons rfl (fun K hK => ?_)
        go_simp
        have hc54 := implTypeSame (meetOf t4a t4b) t4a _ _ _ _ _ (by have := HC10.out; omega) (HA10.out.below (below_trans h038 (hkg50_0))) (HA4a.out.below (below_trans h038 (hkg50_0))) (fun x hx => (HR10.out x hx).below (below_trans h038 (hkg50_0))) (fun x hx => (HR4a.out x hx).below (below_trans h038 (hkg50_0)))
        rw [EQ53.out] at hc54
        refine hc54.mono ?_
        rintro e yg50_1 ⟨rfl, hyg50_1⟩
        have hkg50_1 := below_trans (hkg50_0) hyg50_1
        clear hc54
        refine hK.out _ _ ?_ (fun hS2 => ?_)
        · (refine (fun hB => ⟨hB, cell_keep xa4a hB, cell_keep xb4a hB, cell_keep xa4b hB, cell_keep xb4b hB, cell_keep xa10 hB, cell_keep xb10 hB, cell_keep xa14 hB, cell_keep xb14 hB, cell_keep xa21a hB, cell_keep xb21a hB, cell_keep xa21b hB, cell_keep xb21b hB, cell_keep xa21c hB, cell_keep xb21c hB, cell_keep xa27 hB, cell_keep xb27 hB, cell_keep xa32 hB, cell_keep xb32 hB, cell_keep xa37 hB, cell_keep xb37 hB⟩ : Below ((z37.alloc (Obj.cells #[.int .i64 k37, .slice a37 n37 c37] 25))).heap.size ((z37.alloc (Obj.cells #[.int .i64 k37, .slice a37 n37 c37] 25))) _ → _) ?_; exact hkg50_1)
        clear hK K hS1
        try simp only [Act.put, List.setIfInBounds_toArray, List.set_cons_zero, List.set_cons_succ]
        refine regTake (i := 6) (v := ?vg50_6) rfl (by kernel_rfl) (by kernel_rfl) (by kernel_rfl) (fun _ _ _ h => h) (Or.inl ⟨by rfl, ?hyg50_6⟩) (by assumption) ?_
        case hyg50_6 => (intro w hSw; (try dsimp only at hSw); go_simp; (try with_reducible rfl))
        try simp only [Act.put, List.setIfInBounds_toArray, List.set_cons_zero, List.set_cons_succ]
        refine regTake (i := 7) (v := ?vg50_7) rfl (by kernel_rfl) (by kernel_rfl) (by kernel_rfl) (fun _ _ _ h => h) (Or.inl ⟨by rfl, ?hyg50_7⟩) (by assumption) ?_
        case hyg50_7 => (intro w hSw; (try dsimp only at hSw); go_simp; (try with_reducible rfl))
        try simp only [Act.put, List.setIfInBounds_toArray, List.set_cons_zero, List.set_cons_succ]
        refine regTake (i := 8) (v := ?vg50_8) rfl (by kernel_rfl) (by kernel_rfl) (by kernel_rfl) (fun _ _ _ h => h) (Or.inl ⟨by rfl, ?hyg50_8⟩) (by assumption) ?_
        case hyg50_8 => (intro w hSw; (try dsimp only at hSw); go_simp; (try with_reducible rfl))
        try simp only [Act.put, List.setIfInBounds_toArray, List.set_cons_zero, List.set_cons_succ]
        refine regTake (i := 9) (v := ?vg50_9) rfl (by kernel_rfl) (by kernel_rfl) (by kernel_rfl) (fun _ _ _ h => h) (Or.inl ⟨by rfl, ?hyg50_9⟩) (by assumption) ?_
        case hyg50_9 => (intro w hSw; (try dsimp only at hSw); go_simp; (try with_reducible rfl))
        try simp only [Act.put, List.setIfInBounds_toArray, List.set_cons_zero, List.set_cons_succ]
        refine regTake (i := 10) (v := ?vg50_10) rfl (by kernel_rfl) (by kernel_rfl) (by kernel_rfl) (fun _ _ _ h => h) (Or.inl ⟨by rfl, ?hyg50_10⟩) (by assumption) ?_
        case hyg50_10 => (intro w hSw; (try dsimp only at hSw); go_simp; (try with_reducible rfl))
        try simp only [Act.put, List.setIfInBounds_toArray, List.set_cons_zero, List.set_cons_succ]
        refine regTake (i := 11) (v := ?vg50_11) rfl (by kernel_rfl) (by kernel_rfl) (by kernel_rfl) (fun _ _ _ h => h) (Or.inl ⟨by rfl, ?hyg50_11⟩) (by assumption) ?_
        case hyg50_11 => (intro w hSw; (try dsimp only at hSw); go_simp; (try with_reducible rfl))
        try simp only [Act.put, List.setIfInBounds_toArray, List.set_cons_zero, List.set_cons_succ]
        refine regTake (i := 12) (v := .bool true) rfl (by kernel_rfl) (by kernel_rfl) (by kernel_rfl) (fun _ _ _ h => h) (Or.inl ⟨by rfl, ?hyg50_12⟩) (by assumption) ?_
        case hyg50_12 => (intro w hSw; (try dsimp only at hSw); go_simp; (try with_reducible rfl))
        try simp only [Act.put, List.setIfInBounds_toArray, List.set_cons_zero, List.set_cons_succ]
        refine regTake (i := 13) (v := ?vg50_13) rfl (by kernel_rfl) (by kernel_rfl) (by kernel_rfl) (fun _ _ _ h => h) (Or.inl ⟨by rfl, ?hyg50_13⟩) (by assumption) ?_
        case hyg50_13 => (intro w hSw; (try dsimp only at hSw); go_simp; (try with_reducible rfl))
        try simp only [Act.put, List.setIfInBounds_toArray, List.set_cons_zero, List.set_cons_succ]
        refine regTake (i := 14) (v := .bool true) rfl (by kernel_rfl) (by kernel_rfl) (by kernel_rfl) (fun _ _ _ h => h) (Or.inl ⟨by rfl, ?hyg50_14⟩) (by assumption) ?_
        case hyg50_14 => (intro w hSw; (try dsimp only at hSw); go_simp; (try with_reducible rfl))
        try simp only [Act.put, List.setIfInBounds_toArray, List.set_cons_zero, List.set_cons_succ]
        refine regTake (i := 15) (v := ?vg50_15) rfl (by kernel_rfl) (by kernel_rfl) (by kernel_rfl) (fun _ _ _ h => h) (Or.inl ⟨by rfl, ?hyg50_15⟩) (by assumption) ?_
        case hyg50_15 => (intro w hSw; (try dsimp only at hSw); go_simp; (try with_reducible rfl))
        try simp only [Act.put, List.setIfInBounds_toArray, List.set_cons_zero, List.set_cons_succ]
        refine regTake (i := 16) (v := ?vg50_16) rfl (by kernel_rfl) (by kernel_rfl) (by kernel_rfl) (fun _ _ _ h => h) (Or.inl ⟨by rfl, ?hyg50_16⟩) (by assumption) ?_
        case hyg50_16 => (intro w hSw; (try dsimp only at hSw); go_simp; (try with_reducible rfl))
        try simp only [Act.put, List.setIfInBounds_toArray, List.set_cons_zero, List.set_cons_succ]
        refine regTake (i := 17) (v := ?vg50_17) rfl (by kernel_rfl) (by kernel_rfl) (by kernel_rfl) (fun _ _ _ h => h) (Or.inl ⟨by rfl, ?hyg50_17⟩) (by assumption) ?_
        case hyg50_17 => (intro w hSw; (try dsimp only at hSw); go_simp; (try with_reducible rfl))
        try simp only [Act.put, List.setIfInBounds_toArray, List.set_cons_zero, List.set_cons_succ]
        refine regTake (i := 18) (v := ?vg50_18) rfl (by kernel_rfl) (by kernel_rfl) (by kernel_rfl) (fun _ _ _ h => h) (Or.inl ⟨by rfl, ?hyg50_18⟩) (by assumption) ?_
        case hyg50_18 => (intro w hSw; (try dsimp only at hSw); go_simp; (try with_reducible rfl))
        try simp only [Act.put, List.setIfInBounds_toArray, List.set_cons_zero, List.set_cons_succ]
        refine regTake (i := 19) (v := ?vg50_19) rfl (by kernel_rfl) (by kernel_rfl) (by kernel_rfl) (fun _ _ _ h => h) (Or.inl ⟨by rfl, ?hyg50_19⟩) (by assumption) ?_
        case hyg50_19 => (intro w hSw; (try dsimp only at hSw); go_simp; (try with_reducible rfl))
        try simp only [Act.put, List.setIfInBounds_toArray, List.set_cons_zero, List.set_cons_succ]
        refine regTake (i := 20) (v := ?vg50_20) rfl (by kernel_rfl) (by kernel_rfl) (by kernel_rfl) (fun _ _ _ h => h) (Or.inl ⟨by rfl, ?hyg50_20⟩) (by assumption) ?_
        case hyg50_20 => (intro w hSw; (try dsimp only at hSw); go_simp; (try with_reducible rfl))
        try simp only [Act.put, List.setIfInBounds_toArray, List.set_cons_zero, List.set_cons_succ]
        refine wpAnyH_ready (rs := [21]) (by kernel_rfl) (by simp) ?_
        refine regCons rfl (fun K hK => ?_)
        go_simp
        have hc57 := implTypeSame (meetOf (meetOf t4a t4b) t21b) (meetOf t4a (meetOf t4b t21b)) _ _ _ _ _ (by have := HC27.out; omega) (HA27.out.below (below_trans h038 (hkg50_1))) (HA37.out.below (below_trans h038 (hkg50_1))) (fun x hx => (HR27.out x hx).below (below_trans h038 (hkg50_1))) (fun x hx => (HR37.out x hx).below (below_trans h038 (hkg50_1)))
        rw [EQ56.out] at hc57
        refine hc57.mono ?_
        rintro e yg50_2 ⟨rfl, hyg50_2⟩
        have hkg50_2 := below_trans (hkg50_1) hyg50_2
        clear hc57
        refine hK.out _ _ ?_ (fun hS3 => ?_)
        · (refine (fun hB => ⟨hB, cell_keep xa4a hB, cell_keep xb4a hB, cell_keep xa4b hB, cell_keep xb4b hB, cell_keep xa10 hB, cell_keep xb10 hB, cell_keep xa14 hB, cell_keep xb14 hB, cell_keep xa21a hB, cell_keep xb21a hB, cell_keep xa21b hB, cell_keep xb21b hB, cell_keep xa21c hB, cell_keep xb21c hB, cell_keep xa27 hB, cell_keep xb27 hB, cell_keep xa32 hB, cell_keep xb32 hB, cell_keep xa37 hB, cell_keep xb37 hB⟩ : Below ((z37.alloc (Obj.cells #[.int .i64 k37, .slice a37 n37 c37] 25))).heap.size ((z37.alloc (Obj.cells #[.int .i64 k37, .slice a37 n37 c37] 25))) _ → _) ?_; exact hkg50_2)
        clear hK K hS2
        try simp only [Act.put, List.setIfInBounds_toArray, List.set_cons_zero, List.set_cons_succ]
        refine regTake (i := 22) (v := .bool true) rfl (by kernel_rfl) (by kernel_rfl) (by kernel_rfl) (fun _ _ _ h => h) (Or.inl ⟨by rfl, ?hyg50_22⟩) (by assumption) ?_
        case hyg50_22 => (intro w hSw; (try dsimp only at hSw); go_simp; (try with_reducible rfl))
        try simp only [Act.put, List.setIfInBounds_toArray, List.set_cons_zero, List.set_cons_succ]
        refine regTake (i := 23) (v := .bool true) rfl (by kernel_rfl) (by kernel_rfl) (by kernel_rfl) (fun _ _ _ h => h) (Or.inl ⟨by rfl, ?hyg50_23⟩) (by assumption) ?_
        case hyg50_23 => (intro w hSw; (try dsimp only at hSw); go_simp; (try with_reducible rfl))
        try simp only [Act.put, List.setIfInBounds_toArray, List.set_cons_zero, List.set_cons_succ]
        refine regTake (i := 24) (v := ?vg50_24) rfl (by kernel_rfl) (by kernel_rfl) (by kernel_rfl) (fun _ _ _ h => h) (Or.inl ⟨by rfl, ?hyg50_24⟩) (by assumption) ?_
        case hyg50_24 => (intro w hSw; (try dsimp only at hSw); go_simp; (try with_reducible rfl))
        try simp only [Act.put, List.setIfInBounds_toArray, List.set_cons_zero, List.set_cons_succ]
        refine wpAnyH_done (by kernel_rfl) ?_ _
        have hlg50_ := below_trans h038 hkg50_2
        replace xa4a := cell_keep xa4a hkg50_2
        replace xb4a := cell_keep xb4a hkg50_2
        replace xa4b := cell_keep xa4b hkg50_2
        replace xb4b := cell_keep xb4b hkg50_2
        replace xa10 := cell_keep xa10 hkg50_2
        replace xb10 := cell_keep xb10 hkg50_2
        replace xa14 := cell_keep xa14 hkg50_2
        replace xb14 := cell_keep xb14 hkg50_2
        replace xa21a := cell_keep xa21a hkg50_2
        replace xb21a := cell_keep xb21a hkg50_2
        replace xa21b := cell_keep xa21b hkg50_2
        replace xb21b := cell_keep xb21b hkg50_2
        replace xa21c := cell_keep xa21c hkg50_2
        replace xb21c := cell_keep xb21c hkg50_2
        replace xa27 := cell_keep xa27 hkg50_2
        replace xb27 := cell_keep xb27 hkg50_2
        replace xa32 := cell_keep xa32 hkg50_2
        replace xb32 := cell_keep xb32 hkg50_2
        replace xa37 := cell_keep xa37 hkg50_2
        replace xb37 := cell_keep xb37 hkg50_2
        go_wp2_with fail
        go_ret
        exact ⟨rfl, below_trans HBL.out hlg50_⟩
    · have EQ24 := hid hq24
      clear hq24
      go_wp2_with fail
      have hc60 := implMeetTypes (meetOf t4a t4b) t21b _ _ _ _ _ (HA10.out.below h022) (HA21b.out.below h022) (by have := HC10.out; omega) (by have := HC21b.out; omega)
      rw [EQ24.out] at hc60
      refine hc60.mono ?_
      rintro e z61 ⟨v61, f61, rfl, ht61, hf61, hz61⟩
      obtain ⟨k61, n61, a61, c61, rfl⟩ := ht61.agg
      clear hc60
      have hba62 : Below z61.heap.size z61 (z61.alloc (Obj.cells #[.int .i64 k61, .slice a61 n61 c61] 25)) := ((Below.refl _ _).alloc (Nat.le_refl _) _)
      have hbb62 := below_trans hz61 hba62
      have hbc62 := below_trans h022 hbb62
      replace HA4a := hid (HA4a.out.below hbc62)
      replace HR4a := hid (fun x hx => (HR4a.out x hx).below hbc62)
      replace HA4b := hid (HA4b.out.below hbc62)
      replace HR4b := hid (fun x hx => (HR4b.out x hx).below hbc62)
      replace HA10 := hid (HA10.out.below hbc62)
      replace HR10 := hid (fun x hx => (HR10.out x hx).below hbc62)
      replace HA14 := hid (HA14.out.below hbc62)
      replace HR14 := hid (fun x hx => (HR14.out x hx).below hbc62)
      replace HA21a := hid (HA21a.out.below hbc62)
      replace HR21a := hid (fun x hx => (HR21a.out x hx).below hbc62)
      replace HA21b := hid (HA21b.out.below hbc62)
      replace HR21b := hid (fun x hx => (HR21b.out x hx).below hbc62)
      replace HA21c := hid (HA21c.out.below hbc62)
      replace HBL := hid (below_trans HBL.out hbc62)
      replace xa4a := cell_keep xa4a hbb62
      replace xb4a := cell_keep xb4a hbb62
      replace xa4b := cell_keep xa4b hbb62
      replace xb4b := cell_keep xb4b hbb62
      replace xa10 := cell_keep xa10 hbb62
      replace xb10 := cell_keep xb10 hbb62
      replace xa14 := cell_keep xa14 hbb62
      replace xb14 := cell_keep xb14 hbb62
      replace xa21a := cell_keep xa21a hbb62
      replace xb21a := cell_keep xb21a hbb62
      replace xa21b := cell_keep xa21b hbb62
      replace xb21b := cell_keep xb21b hbb62
      replace xa21c := cell_keep xa21c hbb62
      replace xb21c := cell_keep xb21c hbb62
      have HA61 := hid (ht61.below hba62)
      have HR61 := hid (show ∀ x ∈ f61, Raw (z61.alloc (Obj.cells #[.int .i64 k61, .slice a61 n61 c61] 25)) x from fun x hx => Raw.below (Fresh.raw ht61 hf61 x hx) hba62)
      have HC61 := hid (show (meetOf (meetOf t4a t4b) t21b).cnt ≤ 300 from (Nat.le_trans (meetOf_cnt (meetOf t4a t4b) t21b) (by have := HC10.out; have := HC21b.out; omega)))
      have hl62 := lay1 z61 (Obj.cells #[.int .i64 k61, .slice a61 n61 c61] 25)
      have xa61 : ((z61.alloc (Obj.cells #[.int .i64 k61, .slice a61 n61 c61] 25))).cell? ⟨z61.heap.size, 0, none⟩ = some (.int .i64 k61) := by rw [cell_of_block hl62]; rfl
      have xb61 : ((z61.alloc (Obj.cells #[.int .i64 k61, .slice a61 n61 c61] 25))).cell? ⟨z61.heap.size, 1, none⟩ = some (.slice a61 n61 c61) := by rw [cell_of_block hl62]; rfl
      have h062 := Below.refl ((z61.alloc (Obj.cells #[.int .i64 k61, .slice a61 n61 c61] 25))).heap.size (z61.alloc (Obj.cells #[.int .i64 k61, .slice a61 n61 c61] 25))
      clear ht61
      clear hba62 hbb62 hbc62 hl62 hz61
      rcases Bool.eq_false_or_eq_true (consOf t4b t21b) with hq64 | hq64
      · have EQ64 := hid hq64
        clear hq64
        go_wp2_with fail
        have hc66 := implMeetTypes t4b t21b _ _ _ _ _ (HA4b.out.below h062) (HA21b.out.below h062) (by have := HC4b.out; omega) (by have := HC21b.out; omega)
        rw [EQ64.out] at hc66
        refine hc66.mono ?_
        rintro e z67 ⟨v67, f67, rfl, ht67, hf67, hz67⟩
        obtain ⟨k67, n67, a67, c67, rfl⟩ := ht67.agg
        clear hc66
        have hba68 : Below z67.heap.size z67 (z67.alloc (Obj.cells #[.int .i64 k67, .slice a67 n67 c67] 25)) := ((Below.refl _ _).alloc (Nat.le_refl _) _)
        have hbb68 := below_trans hz67 hba68
        have hbc68 := below_trans h062 hbb68
        replace HA4a := hid (HA4a.out.below hbc68)
        replace HR4a := hid (fun x hx => (HR4a.out x hx).below hbc68)
        replace HA4b := hid (HA4b.out.below hbc68)
        replace HR4b := hid (fun x hx => (HR4b.out x hx).below hbc68)
        replace HA10 := hid (HA10.out.below hbc68)
        replace HR10 := hid (fun x hx => (HR10.out x hx).below hbc68)
        replace HA14 := hid (HA14.out.below hbc68)
        replace HR14 := hid (fun x hx => (HR14.out x hx).below hbc68)
        replace HA21a := hid (HA21a.out.below hbc68)
        replace HR21a := hid (fun x hx => (HR21a.out x hx).below hbc68)
        replace HA21b := hid (HA21b.out.below hbc68)
        replace HR21b := hid (fun x hx => (HR21b.out x hx).below hbc68)
        replace HA21c := hid (HA21c.out.below hbc68)
        replace HA61 := hid (HA61.out.below hbc68)
        replace HR61 := hid (fun x hx => (HR61.out x hx).below hbc68)
        replace HBL := hid (below_trans HBL.out hbc68)
        replace xa4a := cell_keep xa4a hbb68
        replace xb4a := cell_keep xb4a hbb68
        replace xa4b := cell_keep xa4b hbb68
        replace xb4b := cell_keep xb4b hbb68
        replace xa10 := cell_keep xa10 hbb68
        replace xb10 := cell_keep xb10 hbb68
        replace xa14 := cell_keep xa14 hbb68
        replace xb14 := cell_keep xb14 hbb68
        replace xa21a := cell_keep xa21a hbb68
        replace xb21a := cell_keep xb21a hbb68
        replace xa21b := cell_keep xa21b hbb68
        replace xb21b := cell_keep xb21b hbb68
        replace xa21c := cell_keep xa21c hbb68
        replace xb21c := cell_keep xb21c hbb68
        replace xa61 := cell_keep xa61 hbb68
        replace xb61 := cell_keep xb61 hbb68
        have HA67 := hid (ht67.below hba68)
        have HR67 := hid (show ∀ x ∈ f67, Raw (z67.alloc (Obj.cells #[.int .i64 k67, .slice a67 n67 c67] 25)) x from fun x hx => Raw.below (Fresh.raw ht67 hf67 x hx) hba68)
        have HC67 := hid (show (meetOf t4b t21b).cnt ≤ 200 from (Nat.le_trans (meetOf_cnt t4b t21b) (by have := HC4b.out; have := HC21b.out; omega)))
        have hl68 := lay1 z67 (Obj.cells #[.int .i64 k67, .slice a67 n67 c67] 25)
        have xa67 : ((z67.alloc (Obj.cells #[.int .i64 k67, .slice a67 n67 c67] 25))).cell? ⟨z67.heap.size, 0, none⟩ = some (.int .i64 k67) := by rw [cell_of_block hl68]; rfl
        have xb67 : ((z67.alloc (Obj.cells #[.int .i64 k67, .slice a67 n67 c67] 25))).cell? ⟨z67.heap.size, 1, none⟩ = some (.slice a67 n67 c67) := by rw [cell_of_block hl68]; rfl
        have h068 := Below.refl ((z67.alloc (Obj.cells #[.int .i64 k67, .slice a67 n67 c67] 25))).heap.size (z67.alloc (Obj.cells #[.int .i64 k67, .slice a67 n67 c67] 25))
        clear ht67
        clear hba68 hbb68 hbc68 hl68 hz67
        have EQ70 := hid (show consOf t4a (meetOf t4b t21b) = false from (by have h := EQ24.out; rw [(meetOf_assoc t4a t4b t21b EQ7.out).1, EQ64.out, Bool.true_and] at h; exact h))
        go_wp2_with fail
        have hc71 := implMeetTypes t4a (meetOf t4b t21b) _ _ _ _ _ (HA4a.out.below h068) (HA67.out.below h068) (by have := HC4a.out; omega) (by have := HC67.out; omega)
        rw [EQ70.out] at hc71
        refine hc71.mono ?_
        rintro e z72 ⟨v72, f72, rfl, ht72, hf72, hz72⟩
        obtain ⟨k72, n72, a72, c72, rfl⟩ := ht72.agg
        clear hc71
        have hba73 : Below z72.heap.size z72 (z72.alloc (Obj.cells #[.int .i64 k72, .slice a72 n72 c72] 25)) := ((Below.refl _ _).alloc (Nat.le_refl _) _)
        have hbb73 := below_trans hz72 hba73
        have hbc73 := below_trans h068 hbb73
        replace HA4a := hid (HA4a.out.below hbc73)
        replace HR4a := hid (fun x hx => (HR4a.out x hx).below hbc73)
        replace HA4b := hid (HA4b.out.below hbc73)
        replace HR4b := hid (fun x hx => (HR4b.out x hx).below hbc73)
        replace HA10 := hid (HA10.out.below hbc73)
        replace HR10 := hid (fun x hx => (HR10.out x hx).below hbc73)
        replace HA14 := hid (HA14.out.below hbc73)
        replace HR14 := hid (fun x hx => (HR14.out x hx).below hbc73)
        replace HA21a := hid (HA21a.out.below hbc73)
        replace HR21a := hid (fun x hx => (HR21a.out x hx).below hbc73)
        replace HA21b := hid (HA21b.out.below hbc73)
        replace HR21b := hid (fun x hx => (HR21b.out x hx).below hbc73)
        replace HA21c := hid (HA21c.out.below hbc73)
        replace HA61 := hid (HA61.out.below hbc73)
        replace HR61 := hid (fun x hx => (HR61.out x hx).below hbc73)
        replace HA67 := hid (HA67.out.below hbc73)
        replace HR67 := hid (fun x hx => (HR67.out x hx).below hbc73)
        replace HBL := hid (below_trans HBL.out hbc73)
        replace xa4a := cell_keep xa4a hbb73
        replace xb4a := cell_keep xb4a hbb73
        replace xa4b := cell_keep xa4b hbb73
        replace xb4b := cell_keep xb4b hbb73
        replace xa10 := cell_keep xa10 hbb73
        replace xb10 := cell_keep xb10 hbb73
        replace xa14 := cell_keep xa14 hbb73
        replace xb14 := cell_keep xb14 hbb73
        replace xa21a := cell_keep xa21a hbb73
        replace xb21a := cell_keep xb21a hbb73
        replace xa21b := cell_keep xa21b hbb73
        replace xb21b := cell_keep xb21b hbb73
        replace xa21c := cell_keep xa21c hbb73
        replace xb21c := cell_keep xb21c hbb73
        replace xa61 := cell_keep xa61 hbb73
        replace xb61 := cell_keep xb61 hbb73
        replace xa67 := cell_keep xa67 hbb73
        replace xb67 := cell_keep xb67 hbb73
        have HA72 := hid (ht72.below hba73)
        have HR72 := hid (show ∀ x ∈ f72, Raw (z72.alloc (Obj.cells #[.int .i64 k72, .slice a72 n72 c72] 25)) x from fun x hx => Raw.below (Fresh.raw ht72 hf72 x hx) hba73)
        have HC72 := hid (show (meetOf t4a (meetOf t4b t21b)).cnt ≤ 300 from (Nat.le_trans (meetOf_cnt t4a (meetOf t4b t21b)) (by have := HC4a.out; have := HC67.out; omega)))
        have hl73 := lay1 z72 (Obj.cells #[.int .i64 k72, .slice a72 n72 c72] 25)
        have xa72 : ((z72.alloc (Obj.cells #[.int .i64 k72, .slice a72 n72 c72] 25))).cell? ⟨z72.heap.size, 0, none⟩ = some (.int .i64 k72) := by rw [cell_of_block hl73]; rfl
        have xb72 : ((z72.alloc (Obj.cells #[.int .i64 k72, .slice a72 n72 c72] 25))).cell? ⟨z72.heap.size, 1, none⟩ = some (.slice a72 n72 c72) := by rw [cell_of_block hl73]; rfl
        have h073 := Below.refl ((z72.alloc (Obj.cells #[.int .i64 k72, .slice a72 n72 c72] 25))).heap.size (z72.alloc (Obj.cells #[.int .i64 k72, .slice a72 n72 c72] 25))
        clear ht72
        clear hba73 hbb73 hbc73 hl73 hz72
        rcases Bool.eq_false_or_eq_true (precOf t4a t4b) with hq75 | hq75
        · have EQ75 := hid hq75
          clear hq75
          have EQ79 := hid (show tyEq (meetOf t4a t4b) t4a = true from (by rw [← (meetOf_glb t4a t4b EQ7.out).2.2.2.2.2.2]; exact EQ75.out))
          go_wp2_with fail
          refine wp_region_held_drew (S := (fun w' => Below ((z72.alloc (Obj.cells #[.int .i64 k72, .slice a72 n72 c72] 25))).heap.size ((z72.alloc (Obj.cells #[.int .i64 k72, .slice a72 n72 c72] 25))) w' ∧ w'.cell? ⟨z4.heap.size, 0, none⟩ = some (.int .i64 k4a) ∧ w'.cell? ⟨z4.heap.size, 1, none⟩ = some (.slice a4a n4a c4a) ∧ w'.cell? ⟨z4.heap.size + 1, 0, none⟩ = some (.int .i64 k4b) ∧ w'.cell? ⟨z4.heap.size + 1, 1, none⟩ = some (.slice a4b n4b c4b) ∧ w'.cell? ⟨z10.heap.size, 0, none⟩ = some (.int .i64 k10) ∧ w'.cell? ⟨z10.heap.size, 1, none⟩ = some (.slice a10 n10 c10) ∧ w'.cell? ⟨z14.heap.size, 0, none⟩ = some (.int .i64 k14) ∧ w'.cell? ⟨z14.heap.size, 1, none⟩ = some (.slice a14 n14 c14) ∧ w'.cell? ⟨z21.heap.size, 0, none⟩ = some (.int .i64 k21a) ∧ w'.cell? ⟨z21.heap.size, 1, none⟩ = some (.slice a21a n21a c21a) ∧ w'.cell? ⟨z21.heap.size + 1, 0, none⟩ = some (.int .i64 k21b) ∧ w'.cell? ⟨z21.heap.size + 1, 1, none⟩ = some (.slice a21b n21b c21b) ∧ w'.cell? ⟨z21.heap.size + 1 + 1, 0, none⟩ = some (.int .i64 k21c) ∧ w'.cell? ⟨z21.heap.size + 1 + 1, 1, none⟩ = some (.slice a21c n21c c21c) ∧ w'.cell? ⟨z61.heap.size, 0, none⟩ = some (.int .i64 k61) ∧ w'.cell? ⟨z61.heap.size, 1, none⟩ = some (.slice a61 n61 c61) ∧ w'.cell? ⟨z67.heap.size, 0, none⟩ = some (.int .i64 k67) ∧ w'.cell? ⟨z67.heap.size, 1, none⟩ = some (.slice a67 n67 c67) ∧ w'.cell? ⟨z72.heap.size, 0, none⟩ = some (.int .i64 k72) ∧ w'.cell? ⟨z72.heap.size, 1, none⟩ = some (.slice a72 n72 c72))) (by kernel_rfl) ?_ (fun hS0 => ?_)
          · (refine (fun hB => ⟨hB, cell_keep xa4a hB, cell_keep xb4a hB, cell_keep xa4b hB, cell_keep xb4b hB, cell_keep xa10 hB, cell_keep xb10 hB, cell_keep xa14 hB, cell_keep xb14 hB, cell_keep xa21a hB, cell_keep xb21a hB, cell_keep xa21b hB, cell_keep xb21b hB, cell_keep xa21c hB, cell_keep xb21c hB, cell_keep xa61 hB, cell_keep xb61 hB, cell_keep xa67 hB, cell_keep xb67 hB, cell_keep xa72 hB, cell_keep xb72 hB⟩ : Below ((z72.alloc (Obj.cells #[.int .i64 k72, .slice a72 n72 c72] 25))).heap.size ((z72.alloc (Obj.cells #[.int .i64 k72, .slice a72 n72 c72] 25))) _ → _) ?_; exact below_drew _)
          refine regTake (i := 0) (v := ?vg76_0) rfl (by kernel_rfl) (by kernel_rfl) (by kernel_rfl) (fun _ _ _ h => h) (Or.inl ⟨by rfl, ?hyg76_0⟩) (by assumption) ?_
          case hyg76_0 => (intro w hSw; (try dsimp only at hSw); go_simp; (try with_reducible rfl))
          try simp only [Act.put, List.setIfInBounds_toArray, List.set_cons_zero, List.set_cons_succ]
          refine regTake (i := 1) (v := ?vg76_1) rfl (by kernel_rfl) (by kernel_rfl) (by kernel_rfl) (fun _ _ _ h => h) (Or.inl ⟨by rfl, ?hyg76_1⟩) (by assumption) ?_
          case hyg76_1 => (intro w hSw; (try dsimp only at hSw); go_simp; (try with_reducible rfl))
          try simp only [Act.put, List.setIfInBounds_toArray, List.set_cons_zero, List.set_cons_succ]
          refine regTake (i := 3) (v := ?vg76_3) rfl (by kernel_rfl) (by kernel_rfl) (by kernel_rfl) (fun _ _ _ h => h) (Or.inl ⟨by rfl, ?hyg76_3⟩) (by assumption) ?_
          case hyg76_3 => (intro w hSw; (try dsimp only at hSw); go_simp; (try with_reducible rfl))
          try simp only [Act.put, List.setIfInBounds_toArray, List.set_cons_zero, List.set_cons_succ]
          refine regTake (i := 4) (v := ?vg76_4) rfl (by kernel_rfl) (by kernel_rfl) (by kernel_rfl) (fun _ _ _ h => h) (Or.inl ⟨by rfl, ?hyg76_4⟩) (by assumption) ?_
          case hyg76_4 => (intro w hSw; (try dsimp only at hSw); go_simp; (try with_reducible rfl))
          try simp only [Act.put, List.setIfInBounds_toArray, List.set_cons_zero, List.set_cons_succ]
          refine wpAnyH_ready (rs := [2]) (by kernel_rfl) (by simp) ?_
          refine regCons rfl (fun K hK => ?_)
          go_simp
          have hc77 := implPrecise t4a t4b _ _ _ _ _ (HA4a.out.below (below_trans h073 (below_drew ((z72.alloc (Obj.cells #[.int .i64 k72, .slice a72 n72 c72] 25)))))) (HA4b.out.below (below_trans h073 (below_drew ((z72.alloc (Obj.cells #[.int .i64 k72, .slice a72 n72 c72] 25))))))
          rw [EQ75.out] at hc77
          refine hc77.mono ?_
          rintro e yg76_0 ⟨rfl, hyg76_0⟩
          have hkg76_0 := below_trans (below_drew ((z72.alloc (Obj.cells #[.int .i64 k72, .slice a72 n72 c72] 25)))) hyg76_0
          clear hc77
          refine hK.out _ _ ?_ (fun hS1 => ?_)
          · (refine (fun hB => ⟨hB, cell_keep xa4a hB, cell_keep xb4a hB, cell_keep xa4b hB, cell_keep xb4b hB, cell_keep xa10 hB, cell_keep xb10 hB, cell_keep xa14 hB, cell_keep xb14 hB, cell_keep xa21a hB, cell_keep xb21a hB, cell_keep xa21b hB, cell_keep xb21b hB, cell_keep xa21c hB, cell_keep xb21c hB, cell_keep xa61 hB, cell_keep xb61 hB, cell_keep xa67 hB, cell_keep xb67 hB, cell_keep xa72 hB, cell_keep xb72 hB⟩ : Below ((z72.alloc (Obj.cells #[.int .i64 k72, .slice a72 n72 c72] 25))).heap.size ((z72.alloc (Obj.cells #[.int .i64 k72, .slice a72 n72 c72] 25))) _ → _) ?_; exact hkg76_0)
          clear hK K hS0
          try simp only [Act.put, List.setIfInBounds_toArray, List.set_cons_zero, List.set_cons_succ]
          refine wpAnyH_ready (rs := [5]) (by kernel_rfl) (by simp) ?_
          refine regCons rfl (fun K hK => ?_)
          go_simp
          have hc80 := implTypeSame (meetOf t4a t4b) t4a _ _ _ _ _ (by have := HC10.out; omega) (HA10.out.below (below_trans h073 (hkg76_0))) (HA4a.out.below (below_trans h073 (hkg76_0))) (fun x hx => (HR10.out x hx).below (below_trans h073 (hkg76_0))) (fun x hx => (HR4a.out x hx).below (below_trans h073 (hkg76_0)))
          rw [EQ79.out] at hc80
          refine hc80.mono ?_
          rintro e yg76_1 ⟨rfl, hyg76_1⟩
          have hkg76_1 := below_trans (hkg76_0) hyg76_1
          clear hc80
          refine hK.out _ _ ?_ (fun hS2 => ?_)
          · (refine (fun hB => ⟨hB, cell_keep xa4a hB, cell_keep xb4a hB, cell_keep xa4b hB, cell_keep xb4b hB, cell_keep xa10 hB, cell_keep xb10 hB, cell_keep xa14 hB, cell_keep xb14 hB, cell_keep xa21a hB, cell_keep xb21a hB, cell_keep xa21b hB, cell_keep xb21b hB, cell_keep xa21c hB, cell_keep xb21c hB, cell_keep xa61 hB, cell_keep xb61 hB, cell_keep xa67 hB, cell_keep xb67 hB, cell_keep xa72 hB, cell_keep xb72 hB⟩ : Below ((z72.alloc (Obj.cells #[.int .i64 k72, .slice a72 n72 c72] 25))).heap.size ((z72.alloc (Obj.cells #[.int .i64 k72, .slice a72 n72 c72] 25))) _ → _) ?_; exact hkg76_1)
          clear hK K hS1
          try simp only [Act.put, List.setIfInBounds_toArray, List.set_cons_zero, List.set_cons_succ]
          refine regTake (i := 6) (v := ?vg76_6) rfl (by kernel_rfl) (by kernel_rfl) (by kernel_rfl) (fun _ _ _ h => h) (Or.inl ⟨by rfl, ?hyg76_6⟩) (by assumption) ?_
          case hyg76_6 => (intro w hSw; (try dsimp only at hSw); go_simp; (try with_reducible rfl))
          try simp only [Act.put, List.setIfInBounds_toArray, List.set_cons_zero, List.set_cons_succ]
          refine regTake (i := 7) (v := ?vg76_7) rfl (by kernel_rfl) (by kernel_rfl) (by kernel_rfl) (fun _ _ _ h => h) (Or.inl ⟨by rfl, ?hyg76_7⟩) (by assumption) ?_
          case hyg76_7 => (intro w hSw; (try dsimp only at hSw); go_simp; (try with_reducible rfl))
          try simp only [Act.put, List.setIfInBounds_toArray, List.set_cons_zero, List.set_cons_succ]
          refine regTake (i := 8) (v := ?vg76_8) rfl (by kernel_rfl) (by kernel_rfl) (by kernel_rfl) (fun _ _ _ h => h) (Or.inl ⟨by rfl, ?hyg76_8⟩) (by assumption) ?_
          case hyg76_8 => (intro w hSw; (try dsimp only at hSw); go_simp; (try with_reducible rfl))
          try simp only [Act.put, List.setIfInBounds_toArray, List.set_cons_zero, List.set_cons_succ]
          refine regTake (i := 9) (v := ?vg76_9) rfl (by kernel_rfl) (by kernel_rfl) (by kernel_rfl) (fun _ _ _ h => h) (Or.inl ⟨by rfl, ?hyg76_9⟩) (by assumption) ?_
          case hyg76_9 => (intro w hSw; (try dsimp only at hSw); go_simp; (try with_reducible rfl))
          try simp only [Act.put, List.setIfInBounds_toArray, List.set_cons_zero, List.set_cons_succ]
          refine regTake (i := 10) (v := ?vg76_10) rfl (by kernel_rfl) (by kernel_rfl) (by kernel_rfl) (fun _ _ _ h => h) (Or.inl ⟨by rfl, ?hyg76_10⟩) (by assumption) ?_
          case hyg76_10 => (intro w hSw; (try dsimp only at hSw); go_simp; (try with_reducible rfl))
          try simp only [Act.put, List.setIfInBounds_toArray, List.set_cons_zero, List.set_cons_succ]
          refine regTake (i := 11) (v := ?vg76_11) rfl (by kernel_rfl) (by kernel_rfl) (by kernel_rfl) (fun _ _ _ h => h) (Or.inl ⟨by rfl, ?hyg76_11⟩) (by assumption) ?_
          case hyg76_11 => (intro w hSw; (try dsimp only at hSw); go_simp; (try with_reducible rfl))
          try simp only [Act.put, List.setIfInBounds_toArray, List.set_cons_zero, List.set_cons_succ]
          refine regTake (i := 12) (v := .bool false) rfl (by kernel_rfl) (by kernel_rfl) (by kernel_rfl) (fun _ _ _ h => h) (Or.inl ⟨by rfl, ?hyg76_12⟩) (by assumption) ?_
          case hyg76_12 => (intro w hSw; (try dsimp only at hSw); go_simp; (try with_reducible rfl))
          try simp only [Act.put, List.setIfInBounds_toArray, List.set_cons_zero, List.set_cons_succ]
          refine regTake (i := 13) (v := ?vg76_13) rfl (by kernel_rfl) (by kernel_rfl) (by kernel_rfl) (fun _ _ _ h => h) (Or.inl ⟨by rfl, ?hyg76_13⟩) (by assumption) ?_
          case hyg76_13 => (intro w hSw; (try dsimp only at hSw); go_simp; (try with_reducible rfl))
          try simp only [Act.put, List.setIfInBounds_toArray, List.set_cons_zero, List.set_cons_succ]
          refine regTake (i := 14) (v := .bool true) rfl (by kernel_rfl) (by kernel_rfl) (by kernel_rfl) (fun _ _ _ h => h) (Or.inl ⟨by rfl, ?hyg76_14⟩) (by assumption) ?_
          case hyg76_14 => (intro w hSw; (try dsimp only at hSw); go_simp; (try with_reducible rfl))
          try simp only [Act.put, List.setIfInBounds_toArray, List.set_cons_zero, List.set_cons_succ]
          refine regTake (i := 15) (v := ?vg76_15) rfl (by kernel_rfl) (by kernel_rfl) (by kernel_rfl) (fun _ _ _ h => h) (Or.inl ⟨by rfl, ?hyg76_15⟩) (by assumption) ?_
          case hyg76_15 => (intro w hSw; (try dsimp only at hSw); go_simp; (try with_reducible rfl))
          try simp only [Act.put, List.setIfInBounds_toArray, List.set_cons_zero, List.set_cons_succ]
          refine regTake (i := 16) (v := ?vg76_16) rfl (by kernel_rfl) (by kernel_rfl) (by kernel_rfl) (fun _ _ _ h => h) (Or.inl ⟨by rfl, ?hyg76_16⟩) (by assumption) ?_
          case hyg76_16 => (intro w hSw; (try dsimp only at hSw); go_simp; (try with_reducible rfl))
          try simp only [Act.put, List.setIfInBounds_toArray, List.set_cons_zero, List.set_cons_succ]
          refine regTake (i := 17) (v := ?vg76_17) rfl (by kernel_rfl) (by kernel_rfl) (by kernel_rfl) (fun _ _ _ h => h) (Or.inl ⟨by rfl, ?hyg76_17⟩) (by assumption) ?_
          case hyg76_17 => (intro w hSw; (try dsimp only at hSw); go_simp; (try with_reducible rfl))
          try simp only [Act.put, List.setIfInBounds_toArray, List.set_cons_zero, List.set_cons_succ]
          refine regTake (i := 18) (v := ?vg76_18) rfl (by kernel_rfl) (by kernel_rfl) (by kernel_rfl) (fun _ _ _ h => h) (Or.inl ⟨by rfl, ?hyg76_18⟩) (by assumption) ?_
          case hyg76_18 => (intro w hSw; (try dsimp only at hSw); go_simp; (try with_reducible rfl))
          try simp only [Act.put, List.setIfInBounds_toArray, List.set_cons_zero, List.set_cons_succ]
          refine regTake (i := 19) (v := undef) rfl (by kernel_rfl) (by kernel_rfl) (by kernel_rfl) (fun _ _ _ h => h) (Or.inr ⟨by rfl, rfl⟩) (by assumption) ?_
          try simp only [Act.put, List.setIfInBounds_toArray, List.set_cons_zero, List.set_cons_succ]
          refine regTake (i := 20) (v := undef) rfl (by kernel_rfl) (by kernel_rfl) (by kernel_rfl) (fun _ _ _ h => h) (Or.inr ⟨by rfl, rfl⟩) (by assumption) ?_
          try simp only [Act.put, List.setIfInBounds_toArray, List.set_cons_zero, List.set_cons_succ]
          refine regTake (i := 21) (v := undef) rfl (by kernel_rfl) (by kernel_rfl) (by kernel_rfl) (fun _ _ _ h => h) (Or.inr ⟨by rfl, rfl⟩) (by assumption) ?_
          try simp only [Act.put, List.setIfInBounds_toArray, List.set_cons_zero, List.set_cons_succ]
          refine regTake (i := 22) (v := .bool true) rfl (by kernel_rfl) (by kernel_rfl) (by kernel_rfl) (fun _ _ _ h => h) (Or.inl ⟨by rfl, ?hyg76_22⟩) (by assumption) ?_
          case hyg76_22 => (intro w hSw; (try dsimp only at hSw); go_simp; (try with_reducible rfl))
          try simp only [Act.put, List.setIfInBounds_toArray, List.set_cons_zero, List.set_cons_succ]
          refine regTake (i := 23) (v := .bool true) rfl (by kernel_rfl) (by kernel_rfl) (by kernel_rfl) (fun _ _ _ h => h) (Or.inl ⟨by rfl, ?hyg76_23⟩) (by assumption) ?_
          case hyg76_23 => (intro w hSw; (try dsimp only at hSw); go_simp; (try with_reducible rfl))
          try simp only [Act.put, List.setIfInBounds_toArray, List.set_cons_zero, List.set_cons_succ]
          refine regTake (i := 24) (v := ?vg76_24) rfl (by kernel_rfl) (by kernel_rfl) (by kernel_rfl) (fun _ _ _ h => h) (Or.inl ⟨by rfl, ?hyg76_24⟩) (by assumption) ?_
          case hyg76_24 => (intro w hSw; (try dsimp only at hSw); go_simp; (try with_reducible rfl))
          try simp only [Act.put, List.setIfInBounds_toArray, List.set_cons_zero, List.set_cons_succ]
          refine wpAnyH_done (by kernel_rfl) ?_ _
          have hlg76_ := below_trans h073 hkg76_1
          replace xa4a := cell_keep xa4a hkg76_1
          replace xb4a := cell_keep xb4a hkg76_1
          replace xa4b := cell_keep xa4b hkg76_1
          replace xb4b := cell_keep xb4b hkg76_1
          replace xa10 := cell_keep xa10 hkg76_1
          replace xb10 := cell_keep xb10 hkg76_1
          replace xa14 := cell_keep xa14 hkg76_1
          replace xb14 := cell_keep xb14 hkg76_1
          replace xa21a := cell_keep xa21a hkg76_1
          replace xb21a := cell_keep xb21a hkg76_1
          replace xa21b := cell_keep xa21b hkg76_1
          replace xb21b := cell_keep xb21b hkg76_1
          replace xa21c := cell_keep xa21c hkg76_1
          replace xb21c := cell_keep xb21c hkg76_1
          replace xa61 := cell_keep xa61 hkg76_1
          replace xb61 := cell_keep xb61 hkg76_1
          replace xa67 := cell_keep xa67 hkg76_1
          replace xb67 := cell_keep xb67 hkg76_1
          replace xa72 := cell_keep xa72 hkg76_1
          replace xb72 := cell_keep xb72 hkg76_1
          go_wp2_with fail
          go_ret
          exact ⟨rfl, below_trans HBL.out hlg76_⟩
        · have EQ75 := hid hq75
          clear hq75
          have EQ85 := hid (show tyEq (meetOf t4a t4b) t4a = false from (by rw [← (meetOf_glb t4a t4b EQ7.out).2.2.2.2.2.2]; exact EQ75.out))
          go_wp2_with fail
          refine wp_region_held_drew (S := (fun w' => Below ((z72.alloc (Obj.cells #[.int .i64 k72, .slice a72 n72 c72] 25))).heap.size ((z72.alloc (Obj.cells #[.int .i64 k72, .slice a72 n72 c72] 25))) w' ∧ w'.cell? ⟨z4.heap.size, 0, none⟩ = some (.int .i64 k4a) ∧ w'.cell? ⟨z4.heap.size, 1, none⟩ = some (.slice a4a n4a c4a) ∧ w'.cell? ⟨z4.heap.size + 1, 0, none⟩ = some (.int .i64 k4b) ∧ w'.cell? ⟨z4.heap.size + 1, 1, none⟩ = some (.slice a4b n4b c4b) ∧ w'.cell? ⟨z10.heap.size, 0, none⟩ = some (.int .i64 k10) ∧ w'.cell? ⟨z10.heap.size, 1, none⟩ = some (.slice a10 n10 c10) ∧ w'.cell? ⟨z14.heap.size, 0, none⟩ = some (.int .i64 k14) ∧ w'.cell? ⟨z14.heap.size, 1, none⟩ = some (.slice a14 n14 c14) ∧ w'.cell? ⟨z21.heap.size, 0, none⟩ = some (.int .i64 k21a) ∧ w'.cell? ⟨z21.heap.size, 1, none⟩ = some (.slice a21a n21a c21a) ∧ w'.cell? ⟨z21.heap.size + 1, 0, none⟩ = some (.int .i64 k21b) ∧ w'.cell? ⟨z21.heap.size + 1, 1, none⟩ = some (.slice a21b n21b c21b) ∧ w'.cell? ⟨z21.heap.size + 1 + 1, 0, none⟩ = some (.int .i64 k21c) ∧ w'.cell? ⟨z21.heap.size + 1 + 1, 1, none⟩ = some (.slice a21c n21c c21c) ∧ w'.cell? ⟨z61.heap.size, 0, none⟩ = some (.int .i64 k61) ∧ w'.cell? ⟨z61.heap.size, 1, none⟩ = some (.slice a61 n61 c61) ∧ w'.cell? ⟨z67.heap.size, 0, none⟩ = some (.int .i64 k67) ∧ w'.cell? ⟨z67.heap.size, 1, none⟩ = some (.slice a67 n67 c67) ∧ w'.cell? ⟨z72.heap.size, 0, none⟩ = some (.int .i64 k72) ∧ w'.cell? ⟨z72.heap.size, 1, none⟩ = some (.slice a72 n72 c72))) (by kernel_rfl) ?_ (fun hS0 => ?_)
          · (refine (fun hB => ⟨hB, cell_keep xa4a hB, cell_keep xb4a hB, cell_keep xa4b hB, cell_keep xb4b hB, cell_keep xa10 hB, cell_keep xb10 hB, cell_keep xa14 hB, cell_keep xb14 hB, cell_keep xa21a hB, cell_keep xb21a hB, cell_keep xa21b hB, cell_keep xb21b hB, cell_keep xa21c hB, cell_keep xb21c hB, cell_keep xa61 hB, cell_keep xb61 hB, cell_keep xa67 hB, cell_keep xb67 hB, cell_keep xa72 hB, cell_keep xb72 hB⟩ : Below ((z72.alloc (Obj.cells #[.int .i64 k72, .slice a72 n72 c72] 25))).heap.size ((z72.alloc (Obj.cells #[.int .i64 k72, .slice a72 n72 c72] 25))) _ → _) ?_; exact below_drew _)
          refine regTake (i := 0) (v := ?vg82_0) rfl (by kernel_rfl) (by kernel_rfl) (by kernel_rfl) (fun _ _ _ h => h) (Or.inl ⟨by rfl, ?hyg82_0⟩) (by assumption) ?_
          case hyg82_0 => (intro w hSw; (try dsimp only at hSw); go_simp; (try with_reducible rfl))
          try simp only [Act.put, List.setIfInBounds_toArray, List.set_cons_zero, List.set_cons_succ]
          refine regTake (i := 1) (v := ?vg82_1) rfl (by kernel_rfl) (by kernel_rfl) (by kernel_rfl) (fun _ _ _ h => h) (Or.inl ⟨by rfl, ?hyg82_1⟩) (by assumption) ?_
          case hyg82_1 => (intro w hSw; (try dsimp only at hSw); go_simp; (try with_reducible rfl))
          try simp only [Act.put, List.setIfInBounds_toArray, List.set_cons_zero, List.set_cons_succ]
          refine regTake (i := 3) (v := ?vg82_3) rfl (by kernel_rfl) (by kernel_rfl) (by kernel_rfl) (fun _ _ _ h => h) (Or.inl ⟨by rfl, ?hyg82_3⟩) (by assumption) ?_
          case hyg82_3 => (intro w hSw; (try dsimp only at hSw); go_simp; (try with_reducible rfl))
          try simp only [Act.put, List.setIfInBounds_toArray, List.set_cons_zero, List.set_cons_succ]
          refine regTake (i := 4) (v := ?vg82_4) rfl (by kernel_rfl) (by kernel_rfl) (by kernel_rfl) (fun _ _ _ h => h) (Or.inl ⟨by rfl, ?hyg82_4⟩) (by assumption) ?_
          case hyg82_4 => (intro w hSw; (try dsimp only at hSw); go_simp; (try with_reducible rfl))
          try simp only [Act.put, List.setIfInBounds_toArray, List.set_cons_zero, List.set_cons_succ]
          refine wpAnyH_ready (rs := [2]) (by kernel_rfl) (by simp) ?_
          refine regCons rfl (fun K hK => ?_)
          go_simp
          have hc83 := implPrecise t4a t4b _ _ _ _ _ (HA4a.out.below (below_trans h073 (below_drew ((z72.alloc (Obj.cells #[.int .i64 k72, .slice a72 n72 c72] 25)))))) (HA4b.out.below (below_trans h073 (below_drew ((z72.alloc (Obj.cells #[.int .i64 k72, .slice a72 n72 c72] 25))))))
          rw [EQ75.out] at hc83
          refine hc83.mono ?_
          rintro e yg82_0 ⟨rfl, hyg82_0⟩
          have hkg82_0 := below_trans (below_drew ((z72.alloc (Obj.cells #[.int .i64 k72, .slice a72 n72 c72] 25)))) hyg82_0
          clear hc83
          refine hK.out _ _ ?_ (fun hS1 => ?_)
          · (refine (fun hB => ⟨hB, cell_keep xa4a hB, cell_keep xb4a hB, cell_keep xa4b hB, cell_keep xb4b hB, cell_keep xa10 hB, cell_keep xb10 hB, cell_keep xa14 hB, cell_keep xb14 hB, cell_keep xa21a hB, cell_keep xb21a hB, cell_keep xa21b hB, cell_keep xb21b hB, cell_keep xa21c hB, cell_keep xb21c hB, cell_keep xa61 hB, cell_keep xb61 hB, cell_keep xa67 hB, cell_keep xb67 hB, cell_keep xa72 hB, cell_keep xb72 hB⟩ : Below ((z72.alloc (Obj.cells #[.int .i64 k72, .slice a72 n72 c72] 25))).heap.size ((z72.alloc (Obj.cells #[.int .i64 k72, .slice a72 n72 c72] 25))) _ → _) ?_; exact hkg82_0)
          clear hK K hS0
          try simp only [Act.put, List.setIfInBounds_toArray, List.set_cons_zero, List.set_cons_succ]
          refine wpAnyH_ready (rs := [5]) (by kernel_rfl) (by simp) ?_
          refine regCons rfl (fun K hK => ?_)
          go_simp
          have hc86 := implTypeSame (meetOf t4a t4b) t4a _ _ _ _ _ (by have := HC10.out; omega) (HA10.out.below (below_trans h073 (hkg82_0))) (HA4a.out.below (below_trans h073 (hkg82_0))) (fun x hx => (HR10.out x hx).below (below_trans h073 (hkg82_0))) (fun x hx => (HR4a.out x hx).below (below_trans h073 (hkg82_0)))
          rw [EQ85.out] at hc86
          refine hc86.mono ?_
          rintro e yg82_1 ⟨rfl, hyg82_1⟩
          have hkg82_1 := below_trans (hkg82_0) hyg82_1
          clear hc86
          refine hK.out _ _ ?_ (fun hS2 => ?_)
          · (refine (fun hB => ⟨hB, cell_keep xa4a hB, cell_keep xb4a hB, cell_keep xa4b hB, cell_keep xb4b hB, cell_keep xa10 hB, cell_keep xb10 hB, cell_keep xa14 hB, cell_keep xb14 hB, cell_keep xa21a hB, cell_keep xb21a hB, cell_keep xa21b hB, cell_keep xb21b hB, cell_keep xa21c hB, cell_keep xb21c hB, cell_keep xa61 hB, cell_keep xb61 hB, cell_keep xa67 hB, cell_keep xb67 hB, cell_keep xa72 hB, cell_keep xb72 hB⟩ : Below ((z72.alloc (Obj.cells #[.int .i64 k72, .slice a72 n72 c72] 25))).heap.size ((z72.alloc (Obj.cells #[.int .i64 k72, .slice a72 n72 c72] 25))) _ → _) ?_; exact hkg82_1)
          clear hK K hS1
          try simp only [Act.put, List.setIfInBounds_toArray, List.set_cons_zero, List.set_cons_succ]
          refine regTake (i := 6) (v := ?vg82_6) rfl (by kernel_rfl) (by kernel_rfl) (by kernel_rfl) (fun _ _ _ h => h) (Or.inl ⟨by rfl, ?hyg82_6⟩) (by assumption) ?_
          case hyg82_6 => (intro w hSw; (try dsimp only at hSw); go_simp; (try with_reducible rfl))
          try simp only [Act.put, List.setIfInBounds_toArray, List.set_cons_zero, List.set_cons_succ]
          refine regTake (i := 7) (v := ?vg82_7) rfl (by kernel_rfl) (by kernel_rfl) (by kernel_rfl) (fun _ _ _ h => h) (Or.inl ⟨by rfl, ?hyg82_7⟩) (by assumption) ?_
          case hyg82_7 => (intro w hSw; (try dsimp only at hSw); go_simp; (try with_reducible rfl))
          try simp only [Act.put, List.setIfInBounds_toArray, List.set_cons_zero, List.set_cons_succ]
          refine regTake (i := 8) (v := ?vg82_8) rfl (by kernel_rfl) (by kernel_rfl) (by kernel_rfl) (fun _ _ _ h => h) (Or.inl ⟨by rfl, ?hyg82_8⟩) (by assumption) ?_
          case hyg82_8 => (intro w hSw; (try dsimp only at hSw); go_simp; (try with_reducible rfl))
          try simp only [Act.put, List.setIfInBounds_toArray, List.set_cons_zero, List.set_cons_succ]
          refine regTake (i := 9) (v := ?vg82_9) rfl (by kernel_rfl) (by kernel_rfl) (by kernel_rfl) (fun _ _ _ h => h) (Or.inl ⟨by rfl, ?hyg82_9⟩) (by assumption) ?_
          case hyg82_9 => (intro w hSw; (try dsimp only at hSw); go_simp; (try with_reducible rfl))
          try simp only [Act.put, List.setIfInBounds_toArray, List.set_cons_zero, List.set_cons_succ]
          refine regTake (i := 10) (v := ?vg82_10) rfl (by kernel_rfl) (by kernel_rfl) (by kernel_rfl) (fun _ _ _ h => h) (Or.inl ⟨by rfl, ?hyg82_10⟩) (by assumption) ?_
          case hyg82_10 => (intro w hSw; (try dsimp only at hSw); go_simp; (try with_reducible rfl))
          try simp only [Act.put, List.setIfInBounds_toArray, List.set_cons_zero, List.set_cons_succ]
          refine regTake (i := 11) (v := ?vg82_11) rfl (by kernel_rfl) (by kernel_rfl) (by kernel_rfl) (fun _ _ _ h => h) (Or.inl ⟨by rfl, ?hyg82_11⟩) (by assumption) ?_
          case hyg82_11 => (intro w hSw; (try dsimp only at hSw); go_simp; (try with_reducible rfl))
          try simp only [Act.put, List.setIfInBounds_toArray, List.set_cons_zero, List.set_cons_succ]
          refine regTake (i := 12) (v := .bool false) rfl (by kernel_rfl) (by kernel_rfl) (by kernel_rfl) (fun _ _ _ h => h) (Or.inl ⟨by rfl, ?hyg82_12⟩) (by assumption) ?_
          case hyg82_12 => (intro w hSw; (try dsimp only at hSw); go_simp; (try with_reducible rfl))
          try simp only [Act.put, List.setIfInBounds_toArray, List.set_cons_zero, List.set_cons_succ]
          refine regTake (i := 13) (v := ?vg82_13) rfl (by kernel_rfl) (by kernel_rfl) (by kernel_rfl) (fun _ _ _ h => h) (Or.inl ⟨by rfl, ?hyg82_13⟩) (by assumption) ?_
          case hyg82_13 => (intro w hSw; (try dsimp only at hSw); go_simp; (try with_reducible rfl))
          try simp only [Act.put, List.setIfInBounds_toArray, List.set_cons_zero, List.set_cons_succ]
          refine regTake (i := 14) (v := .bool true) rfl (by kernel_rfl) (by kernel_rfl) (by kernel_rfl) (fun _ _ _ h => h) (Or.inl ⟨by rfl, ?hyg82_14⟩) (by assumption) ?_
          case hyg82_14 => (intro w hSw; (try dsimp only at hSw); go_simp; (try with_reducible rfl))
          try simp only [Act.put, List.setIfInBounds_toArray, List.set_cons_zero, List.set_cons_succ]
          refine regTake (i := 15) (v := ?vg82_15) rfl (by kernel_rfl) (by kernel_rfl) (by kernel_rfl) (fun _ _ _ h => h) (Or.inl ⟨by rfl, ?hyg82_15⟩) (by assumption) ?_
          case hyg82_15 => (intro w hSw; (try dsimp only at hSw); go_simp; (try with_reducible rfl))
          try simp only [Act.put, List.setIfInBounds_toArray, List.set_cons_zero, List.set_cons_succ]
          refine regTake (i := 16) (v := ?vg82_16) rfl (by kernel_rfl) (by kernel_rfl) (by kernel_rfl) (fun _ _ _ h => h) (Or.inl ⟨by rfl, ?hyg82_16⟩) (by assumption) ?_
          case hyg82_16 => (intro w hSw; (try dsimp only at hSw); go_simp; (try with_reducible rfl))
          try simp only [Act.put, List.setIfInBounds_toArray, List.set_cons_zero, List.set_cons_succ]
          refine regTake (i := 17) (v := ?vg82_17) rfl (by kernel_rfl) (by kernel_rfl) (by kernel_rfl) (fun _ _ _ h => h) (Or.inl ⟨by rfl, ?hyg82_17⟩) (by assumption) ?_
          case hyg82_17 => (intro w hSw; (try dsimp only at hSw); go_simp; (try with_reducible rfl))
          try simp only [Act.put, List.setIfInBounds_toArray, List.set_cons_zero, List.set_cons_succ]
          refine regTake (i := 18) (v := ?vg82_18) rfl (by kernel_rfl) (by kernel_rfl) (by kernel_rfl) (fun _ _ _ h => h) (Or.inl ⟨by rfl, ?hyg82_18⟩) (by assumption) ?_
          case hyg82_18 => (intro w hSw; (try dsimp only at hSw); go_simp; (try with_reducible rfl))
          try simp only [Act.put, List.setIfInBounds_toArray, List.set_cons_zero, List.set_cons_succ]
          refine regTake (i := 19) (v := undef) rfl (by kernel_rfl) (by kernel_rfl) (by kernel_rfl) (fun _ _ _ h => h) (Or.inr ⟨by rfl, rfl⟩) (by assumption) ?_
          try simp only [Act.put, List.setIfInBounds_toArray, List.set_cons_zero, List.set_cons_succ]
          refine regTake (i := 20) (v := undef) rfl (by kernel_rfl) (by kernel_rfl) (by kernel_rfl) (fun _ _ _ h => h) (Or.inr ⟨by rfl, rfl⟩) (by assumption) ?_
          try simp only [Act.put, List.setIfInBounds_toArray, List.set_cons_zero, List.set_cons_succ]
          refine regTake (i := 21) (v := undef) rfl (by kernel_rfl) (by kernel_rfl) (by kernel_rfl) (fun _ _ _ h => h) (Or.inr ⟨by rfl, rfl⟩) (by assumption) ?_
          try simp only [Act.put, List.setIfInBounds_toArray, List.set_cons_zero, List.set_cons_succ]
          refine regTake (i := 22) (v := .bool true) rfl (by kernel_rfl) (by kernel_rfl) (by kernel_rfl) (fun _ _ _ h => h) (Or.inl ⟨by rfl, ?hyg82_22⟩) (by assumption) ?_
          case hyg82_22 => (intro w hSw; (try dsimp only at hSw); go_simp; (try with_reducible rfl))
          try simp only [Act.put, List.setIfInBounds_toArray, List.set_cons_zero, List.set_cons_succ]
          refine regTake (i := 23) (v := .bool true) rfl (by kernel_rfl) (by kernel_rfl) (by kernel_rfl) (fun _ _ _ h => h) (Or.inl ⟨by rfl, ?hyg82_23⟩) (by assumption) ?_
          case hyg82_23 => (intro w hSw; (try dsimp only at hSw); go_simp; (try with_reducible rfl))
          try simp only [Act.put, List.setIfInBounds_toArray, List.set_cons_zero, List.set_cons_succ]
          refine regTake (i := 24) (v := ?vg82_24) rfl (by kernel_rfl) (by kernel_rfl) (by kernel_rfl) (fun _ _ _ h => h) (Or.inl ⟨by rfl, ?hyg82_24⟩) (by assumption) ?_
          case hyg82_24 => (intro w hSw; (try dsimp only at hSw); go_simp; (try with_reducible rfl))
          try simp only [Act.put, List.setIfInBounds_toArray, List.set_cons_zero, List.set_cons_succ]
          refine wpAnyH_done (by kernel_rfl) ?_ _
          have hlg82_ := below_trans h073 hkg82_1
          replace xa4a := cell_keep xa4a hkg82_1
          replace xb4a := cell_keep xb4a hkg82_1
          replace xa4b := cell_keep xa4b hkg82_1
          replace xb4b := cell_keep xb4b hkg82_1
          replace xa10 := cell_keep xa10 hkg82_1
          replace xb10 := cell_keep xb10 hkg82_1
          replace xa14 := cell_keep xa14 hkg82_1
          replace xb14 := cell_keep xb14 hkg82_1
          replace xa21a := cell_keep xa21a hkg82_1
          replace xb21a := cell_keep xb21a hkg82_1
          replace xa21b := cell_keep xa21b hkg82_1
          replace xb21b := cell_keep xb21b hkg82_1
          replace xa21c := cell_keep xa21c hkg82_1
          replace xb21c := cell_keep xb21c hkg82_1
          replace xa61 := cell_keep xa61 hkg82_1
          replace xb61 := cell_keep xb61 hkg82_1
          replace xa67 := cell_keep xa67 hkg82_1
          replace xb67 := cell_keep xb67 hkg82_1
          replace xa72 := cell_keep xa72 hkg82_1
          replace xb72 := cell_keep xb72 hkg82_1
          go_wp2_with fail
          go_ret
          exact ⟨rfl, below_trans HBL.out hlg82_⟩
      · have EQ64 := hid hq64
        clear hq64
        go_wp2_with fail
        have hc89 := implMeetTypes t4b t21b _ _ _ _ _ (HA4b.out.below h062) (HA21b.out.below h062) (by have := HC4b.out; omega) (by have := HC21b.out; omega)
        rw [EQ64.out] at hc89
        refine hc89.mono ?_
        rintro e z90 ⟨v90, f90, rfl, ht90, hf90, hz90⟩
        obtain ⟨k90, n90, a90, c90, rfl⟩ := ht90.agg
        clear hc89
        have hba91 : Below z90.heap.size z90 (z90.alloc (Obj.cells #[.int .i64 k90, .slice a90 n90 c90] 25)) := ((Below.refl _ _).alloc (Nat.le_refl _) _)
        have hbb91 := below_trans hz90 hba91
        have hbc91 := below_trans h062 hbb91
        replace HA4a := hid (HA4a.out.below hbc91)
        replace HR4a := hid (fun x hx => (HR4a.out x hx).below hbc91)
        replace HA4b := hid (HA4b.out.below hbc91)
        replace HR4b := hid (fun x hx => (HR4b.out x hx).below hbc91)
        replace HA10 := hid (HA10.out.below hbc91)
        replace HR10 := hid (fun x hx => (HR10.out x hx).below hbc91)
        replace HA14 := hid (HA14.out.below hbc91)
        replace HR14 := hid (fun x hx => (HR14.out x hx).below hbc91)
        replace HA21a := hid (HA21a.out.below hbc91)
        replace HR21a := hid (fun x hx => (HR21a.out x hx).below hbc91)
        replace HA21b := hid (HA21b.out.below hbc91)
        replace HR21b := hid (fun x hx => (HR21b.out x hx).below hbc91)
        replace HA21c := hid (HA21c.out.below hbc91)
        replace HA61 := hid (HA61.out.below hbc91)
        replace HR61 := hid (fun x hx => (HR61.out x hx).below hbc91)
        replace HBL := hid (below_trans HBL.out hbc91)
        replace xa4a := cell_keep xa4a hbb91
        replace xb4a := cell_keep xb4a hbb91
        replace xa4b := cell_keep xa4b hbb91
        replace xb4b := cell_keep xb4b hbb91
        replace xa10 := cell_keep xa10 hbb91
        replace xb10 := cell_keep xb10 hbb91
        replace xa14 := cell_keep xa14 hbb91
        replace xb14 := cell_keep xb14 hbb91
        replace xa21a := cell_keep xa21a hbb91
        replace xb21a := cell_keep xb21a hbb91
        replace xa21b := cell_keep xa21b hbb91
        replace xb21b := cell_keep xb21b hbb91
        replace xa21c := cell_keep xa21c hbb91
        replace xb21c := cell_keep xb21c hbb91
        replace xa61 := cell_keep xa61 hbb91
        replace xb61 := cell_keep xb61 hbb91
        have HA90 := hid (ht90.below hba91)
        have HR90 := hid (show ∀ x ∈ f90, Raw (z90.alloc (Obj.cells #[.int .i64 k90, .slice a90 n90 c90] 25)) x from fun x hx => Raw.below (Fresh.raw ht90 hf90 x hx) hba91)
        have HC90 := hid (show (meetOf t4b t21b).cnt ≤ 200 from (Nat.le_trans (meetOf_cnt t4b t21b) (by have := HC4b.out; have := HC21b.out; omega)))
        have hl91 := lay1 z90 (Obj.cells #[.int .i64 k90, .slice a90 n90 c90] 25)
        have xa90 : ((z90.alloc (Obj.cells #[.int .i64 k90, .slice a90 n90 c90] 25))).cell? ⟨z90.heap.size, 0, none⟩ = some (.int .i64 k90) := by rw [cell_of_block hl91]; rfl
        have xb90 : ((z90.alloc (Obj.cells #[.int .i64 k90, .slice a90 n90 c90] 25))).cell? ⟨z90.heap.size, 1, none⟩ = some (.slice a90 n90 c90) := by rw [cell_of_block hl91]; rfl
        have h091 := Below.refl ((z90.alloc (Obj.cells #[.int .i64 k90, .slice a90 n90 c90] 25))).heap.size (z90.alloc (Obj.cells #[.int .i64 k90, .slice a90 n90 c90] 25))
        clear ht90
        clear hba91 hbb91 hbc91 hl91 hz90
        have EQ93 := hid (show consOf t4a (meetOf t4b t21b) = false from (by have e : meetOf t4b t21b = .mk 0 [] := (by unfold meetOf; rw [EQ64.out]; rfl); rw [e]; simp only [consOf, vld_zero, Bool.and_false, Bool.false_and]))
        go_wp2_with fail
        have hc94 := implMeetTypes t4a (meetOf t4b t21b) _ _ _ _ _ (HA4a.out.below h091) (HA90.out.below h091) (by have := HC4a.out; omega) (by have := HC90.out; omega)
        rw [EQ93.out] at hc94
        refine hc94.mono ?_
        rintro e z95 ⟨v95, f95, rfl, ht95, hf95, hz95⟩
        obtain ⟨k95, n95, a95, c95, rfl⟩ := ht95.agg
        clear hc94
        have hba96 : Below z95.heap.size z95 (z95.alloc (Obj.cells #[.int .i64 k95, .slice a95 n95 c95] 25)) := ((Below.refl _ _).alloc (Nat.le_refl _) _)
        have hbb96 := below_trans hz95 hba96
        have hbc96 := below_trans h091 hbb96
        replace HA4a := hid (HA4a.out.below hbc96)
        replace HR4a := hid (fun x hx => (HR4a.out x hx).below hbc96)
        replace HA4b := hid (HA4b.out.below hbc96)
        replace HR4b := hid (fun x hx => (HR4b.out x hx).below hbc96)
        replace HA10 := hid (HA10.out.below hbc96)
        replace HR10 := hid (fun x hx => (HR10.out x hx).below hbc96)
        replace HA14 := hid (HA14.out.below hbc96)
        replace HR14 := hid (fun x hx => (HR14.out x hx).below hbc96)
        replace HA21a := hid (HA21a.out.below hbc96)
        replace HR21a := hid (fun x hx => (HR21a.out x hx).below hbc96)
        replace HA21b := hid (HA21b.out.below hbc96)
        replace HR21b := hid (fun x hx => (HR21b.out x hx).below hbc96)
        replace HA21c := hid (HA21c.out.below hbc96)
        replace HA61 := hid (HA61.out.below hbc96)
        replace HR61 := hid (fun x hx => (HR61.out x hx).below hbc96)
        replace HA90 := hid (HA90.out.below hbc96)
        replace HR90 := hid (fun x hx => (HR90.out x hx).below hbc96)
        replace HBL := hid (below_trans HBL.out hbc96)
        replace xa4a := cell_keep xa4a hbb96
        replace xb4a := cell_keep xb4a hbb96
        replace xa4b := cell_keep xa4b hbb96
        replace xb4b := cell_keep xb4b hbb96
        replace xa10 := cell_keep xa10 hbb96
        replace xb10 := cell_keep xb10 hbb96
        replace xa14 := cell_keep xa14 hbb96
        replace xb14 := cell_keep xb14 hbb96
        replace xa21a := cell_keep xa21a hbb96
        replace xb21a := cell_keep xb21a hbb96
        replace xa21b := cell_keep xa21b hbb96
        replace xb21b := cell_keep xb21b hbb96
        replace xa21c := cell_keep xa21c hbb96
        replace xb21c := cell_keep xb21c hbb96
        replace xa61 := cell_keep xa61 hbb96
        replace xb61 := cell_keep xb61 hbb96
        replace xa90 := cell_keep xa90 hbb96
        replace xb90 := cell_keep xb90 hbb96
        have HA95 := hid (ht95.below hba96)
        have HR95 := hid (show ∀ x ∈ f95, Raw (z95.alloc (Obj.cells #[.int .i64 k95, .slice a95 n95 c95] 25)) x from fun x hx => Raw.below (Fresh.raw ht95 hf95 x hx) hba96)
        have HC95 := hid (show (meetOf t4a (meetOf t4b t21b)).cnt ≤ 300 from (Nat.le_trans (meetOf_cnt t4a (meetOf t4b t21b)) (by have := HC4a.out; have := HC90.out; omega)))
        have hl96 := lay1 z95 (Obj.cells #[.int .i64 k95, .slice a95 n95 c95] 25)
        have xa95 : ((z95.alloc (Obj.cells #[.int .i64 k95, .slice a95 n95 c95] 25))).cell? ⟨z95.heap.size, 0, none⟩ = some (.int .i64 k95) := by rw [cell_of_block hl96]; rfl
        have xb95 : ((z95.alloc (Obj.cells #[.int .i64 k95, .slice a95 n95 c95] 25))).cell? ⟨z95.heap.size, 1, none⟩ = some (.slice a95 n95 c95) := by rw [cell_of_block hl96]; rfl
        have h096 := Below.refl ((z95.alloc (Obj.cells #[.int .i64 k95, .slice a95 n95 c95] 25))).heap.size (z95.alloc (Obj.cells #[.int .i64 k95, .slice a95 n95 c95] 25))
        clear ht95
        clear hba96 hbb96 hbc96 hl96 hz95
        rcases Bool.eq_false_or_eq_true (precOf t4a t4b) with hq98 | hq98
        · have EQ98 := hid hq98
          clear hq98
          have EQ102 := hid (show tyEq (meetOf t4a t4b) t4a = true from (by rw [← (meetOf_glb t4a t4b EQ7.out).2.2.2.2.2.2]; exact EQ98.out))
          go_wp2_with fail
          refine wp_region_held_drew (S := (fun w' => Below ((z95.alloc (Obj.cells #[.int .i64 k95, .slice a95 n95 c95] 25))).heap.size ((z95.alloc (Obj.cells #[.int .i64 k95, .slice a95 n95 c95] 25))) w' ∧ w'.cell? ⟨z4.heap.size, 0, none⟩ = some (.int .i64 k4a) ∧ w'.cell? ⟨z4.heap.size, 1, none⟩ = some (.slice a4a n4a c4a) ∧ w'.cell? ⟨z4.heap.size + 1, 0, none⟩ = some (.int .i64 k4b) ∧ w'.cell? ⟨z4.heap.size + 1, 1, none⟩ = some (.slice a4b n4b c4b) ∧ w'.cell? ⟨z10.heap.size, 0, none⟩ = some (.int .i64 k10) ∧ w'.cell? ⟨z10.heap.size, 1, none⟩ = some (.slice a10 n10 c10) ∧ w'.cell? ⟨z14.heap.size, 0, none⟩ = some (.int .i64 k14) ∧ w'.cell? ⟨z14.heap.size, 1, none⟩ = some (.slice a14 n14 c14) ∧ w'.cell? ⟨z21.heap.size, 0, none⟩ = some (.int .i64 k21a) ∧ w'.cell? ⟨z21.heap.size, 1, none⟩ = some (.slice a21a n21a c21a) ∧ w'.cell? ⟨z21.heap.size + 1, 0, none⟩ = some (.int .i64 k21b) ∧ w'.cell? ⟨z21.heap.size + 1, 1, none⟩ = some (.slice a21b n21b c21b) ∧ w'.cell? ⟨z21.heap.size + 1 + 1, 0, none⟩ = some (.int .i64 k21c) ∧ w'.cell? ⟨z21.heap.size + 1 + 1, 1, none⟩ = some (.slice a21c n21c c21c) ∧ w'.cell? ⟨z61.heap.size, 0, none⟩ = some (.int .i64 k61) ∧ w'.cell? ⟨z61.heap.size, 1, none⟩ = some (.slice a61 n61 c61) ∧ w'.cell? ⟨z90.heap.size, 0, none⟩ = some (.int .i64 k90) ∧ w'.cell? ⟨z90.heap.size, 1, none⟩ = some (.slice a90 n90 c90) ∧ w'.cell? ⟨z95.heap.size, 0, none⟩ = some (.int .i64 k95) ∧ w'.cell? ⟨z95.heap.size, 1, none⟩ = some (.slice a95 n95 c95))) (by kernel_rfl) ?_ (fun hS0 => ?_)
          · (refine (fun hB => ⟨hB, cell_keep xa4a hB, cell_keep xb4a hB, cell_keep xa4b hB, cell_keep xb4b hB, cell_keep xa10 hB, cell_keep xb10 hB, cell_keep xa14 hB, cell_keep xb14 hB, cell_keep xa21a hB, cell_keep xb21a hB, cell_keep xa21b hB, cell_keep xb21b hB, cell_keep xa21c hB, cell_keep xb21c hB, cell_keep xa61 hB, cell_keep xb61 hB, cell_keep xa90 hB, cell_keep xb90 hB, cell_keep xa95 hB, cell_keep xb95 hB⟩ : Below ((z95.alloc (Obj.cells #[.int .i64 k95, .slice a95 n95 c95] 25))).heap.size ((z95.alloc (Obj.cells #[.int .i64 k95, .slice a95 n95 c95] 25))) _ → _) ?_; exact below_drew _)
          refine regTake (i := 0) (v := ?vg99_0) rfl (by kernel_rfl) (by kernel_rfl) (by kernel_rfl) (fun _ _ _ h => h) (Or.inl ⟨by rfl, ?hyg99_0⟩) (by assumption) ?_
          case hyg99_0 => (intro w hSw; (try dsimp only at hSw); go_simp; (try with_reducible rfl))
          try simp only [Act.put, List.setIfInBounds_toArray, List.set_cons_zero, List.set_cons_succ]
          refine regTake (i := 1) (v := ?vg99_1) rfl (by kernel_rfl) (by kernel_rfl) (by kernel_rfl) (fun _ _ _ h => h) (Or.inl ⟨by rfl, ?hyg99_1⟩) (by assumption) ?_
          case hyg99_1 => (intro w hSw; (try dsimp only at hSw); go_simp; (try with_reducible rfl))
          try simp only [Act.put, List.setIfInBounds_toArray, List.set_cons_zero, List.set_cons_succ]
          refine regTake (i := 3) (v := ?vg99_3) rfl (by kernel_rfl) (by kernel_rfl) (by kernel_rfl) (fun _ _ _ h => h) (Or.inl ⟨by rfl, ?hyg99_3⟩) (by assumption) ?_
          case hyg99_3 => (intro w hSw; (try dsimp only at hSw); go_simp; (try with_reducible rfl))
          try simp only [Act.put, List.setIfInBounds_toArray, List.set_cons_zero, List.set_cons_succ]
          refine regTake (i := 4) (v := ?vg99_4) rfl (by kernel_rfl) (by kernel_rfl) (by kernel_rfl) (fun _ _ _ h => h) (Or.inl ⟨by rfl, ?hyg99_4⟩) (by assumption) ?_
          case hyg99_4 => (intro w hSw; (try dsimp only at hSw); go_simp; (try with_reducible rfl))
          try simp only [Act.put, List.setIfInBounds_toArray, List.set_cons_zero, List.set_cons_succ]
          refine wpAnyH_ready (rs := [2]) (by kernel_rfl) (by simp) ?_
          refine regCons rfl (fun K hK => ?_)
          go_simp
          have hc100 := implPrecise t4a t4b _ _ _ _ _ (HA4a.out.below (below_trans h096 (below_drew ((z95.alloc (Obj.cells #[.int .i64 k95, .slice a95 n95 c95] 25)))))) (HA4b.out.below (below_trans h096 (below_drew ((z95.alloc (Obj.cells #[.int .i64 k95, .slice a95 n95 c95] 25))))))
          rw [EQ98.out] at hc100
          refine hc100.mono ?_
          rintro e yg99_0 ⟨rfl, hyg99_0⟩
          have hkg99_0 := below_trans (below_drew ((z95.alloc (Obj.cells #[.int .i64 k95, .slice a95 n95 c95] 25)))) hyg99_0
          clear hc100
          refine hK.out _ _ ?_ (fun hS1 => ?_)
          · (refine (fun hB => ⟨hB, cell_keep xa4a hB, cell_keep xb4a hB, cell_keep xa4b hB, cell_keep xb4b hB, cell_keep xa10 hB, cell_keep xb10 hB, cell_keep xa14 hB, cell_keep xb14 hB, cell_keep xa21a hB, cell_keep xb21a hB, cell_keep xa21b hB, cell_keep xb21b hB, cell_keep xa21c hB, cell_keep xb21c hB, cell_keep xa61 hB, cell_keep xb61 hB, cell_keep xa90 hB, cell_keep xb90 hB, cell_keep xa95 hB, cell_keep xb95 hB⟩ : Below ((z95.alloc (Obj.cells #[.int .i64 k95, .slice a95 n95 c95] 25))).heap.size ((z95.alloc (Obj.cells #[.int .i64 k95, .slice a95 n95 c95] 25))) _ → _) ?_; exact hkg99_0)
          clear hK K hS0
          try simp only [Act.put, List.setIfInBounds_toArray, List.set_cons_zero, List.set_cons_succ]
          refine wpAnyH_ready (rs := [5]) (by kernel_rfl) (by simp) ?_
          refine regCons rfl (fun K hK => ?_)
          go_simp
          have hc103 := implTypeSame (meetOf t4a t4b) t4a _ _ _ _ _ (by have := HC10.out; omega) (HA10.out.below (below_trans h096 (hkg99_0))) (HA4a.out.below (below_trans h096 (hkg99_0))) (fun x hx => (HR10.out x hx).below (below_trans h096 (hkg99_0))) (fun x hx => (HR4a.out x hx).below (below_trans h096 (hkg99_0)))
          rw [EQ102.out] at hc103
          refine hc103.mono ?_
          rintro e yg99_1 ⟨rfl, hyg99_1⟩
          have hkg99_1 := below_trans (hkg99_0) hyg99_1
          clear hc103
          refine hK.out _ _ ?_ (fun hS2 => ?_)
          · (refine (fun hB => ⟨hB, cell_keep xa4a hB, cell_keep xb4a hB, cell_keep xa4b hB, cell_keep xb4b hB, cell_keep xa10 hB, cell_keep xb10 hB, cell_keep xa14 hB, cell_keep xb14 hB, cell_keep xa21a hB, cell_keep xb21a hB, cell_keep xa21b hB, cell_keep xb21b hB, cell_keep xa21c hB, cell_keep xb21c hB, cell_keep xa61 hB, cell_keep xb61 hB, cell_keep xa90 hB, cell_keep xb90 hB, cell_keep xa95 hB, cell_keep xb95 hB⟩ : Below ((z95.alloc (Obj.cells #[.int .i64 k95, .slice a95 n95 c95] 25))).heap.size ((z95.alloc (Obj.cells #[.int .i64 k95, .slice a95 n95 c95] 25))) _ → _) ?_; exact hkg99_1)
          clear hK K hS1
          try simp only [Act.put, List.setIfInBounds_toArray, List.set_cons_zero, List.set_cons_succ]
          refine regTake (i := 6) (v := ?vg99_6) rfl (by kernel_rfl) (by kernel_rfl) (by kernel_rfl) (fun _ _ _ h => h) (Or.inl ⟨by rfl, ?hyg99_6⟩) (by assumption) ?_
          case hyg99_6 => (intro w hSw; (try dsimp only at hSw); go_simp; (try with_reducible rfl))
          try simp only [Act.put, List.setIfInBounds_toArray, List.set_cons_zero, List.set_cons_succ]
          refine regTake (i := 7) (v := ?vg99_7) rfl (by kernel_rfl) (by kernel_rfl) (by kernel_rfl) (fun _ _ _ h => h) (Or.inl ⟨by rfl, ?hyg99_7⟩) (by assumption) ?_
          case hyg99_7 => (intro w hSw; (try dsimp only at hSw); go_simp; (try with_reducible rfl))
          try simp only [Act.put, List.setIfInBounds_toArray, List.set_cons_zero, List.set_cons_succ]
          refine regTake (i := 8) (v := ?vg99_8) rfl (by kernel_rfl) (by kernel_rfl) (by kernel_rfl) (fun _ _ _ h => h) (Or.inl ⟨by rfl, ?hyg99_8⟩) (by assumption) ?_
          case hyg99_8 => (intro w hSw; (try dsimp only at hSw); go_simp; (try with_reducible rfl))
          try simp only [Act.put, List.setIfInBounds_toArray, List.set_cons_zero, List.set_cons_succ]
          refine regTake (i := 9) (v := ?vg99_9) rfl (by kernel_rfl) (by kernel_rfl) (by kernel_rfl) (fun _ _ _ h => h) (Or.inl ⟨by rfl, ?hyg99_9⟩) (by assumption) ?_
          case hyg99_9 => (intro w hSw; (try dsimp only at hSw); go_simp; (try with_reducible rfl))
          try simp only [Act.put, List.setIfInBounds_toArray, List.set_cons_zero, List.set_cons_succ]
          refine regTake (i := 10) (v := ?vg99_10) rfl (by kernel_rfl) (by kernel_rfl) (by kernel_rfl) (fun _ _ _ h => h) (Or.inl ⟨by rfl, ?hyg99_10⟩) (by assumption) ?_
          case hyg99_10 => (intro w hSw; (try dsimp only at hSw); go_simp; (try with_reducible rfl))
          try simp only [Act.put, List.setIfInBounds_toArray, List.set_cons_zero, List.set_cons_succ]
          refine regTake (i := 11) (v := undef) rfl (by kernel_rfl) (by kernel_rfl) (by kernel_rfl) (fun _ _ _ h => h) (Or.inr ⟨by rfl, rfl⟩) (by assumption) ?_
          try simp only [Act.put, List.setIfInBounds_toArray, List.set_cons_zero, List.set_cons_succ]
          refine regTake (i := 12) (v := .bool false) rfl (by kernel_rfl) (by kernel_rfl) (by kernel_rfl) (fun _ _ _ h => h) (Or.inl ⟨by rfl, ?hyg99_12⟩) (by assumption) ?_
          case hyg99_12 => (intro w hSw; (try dsimp only at hSw); go_simp; (try with_reducible rfl))
          try simp only [Act.put, List.setIfInBounds_toArray, List.set_cons_zero, List.set_cons_succ]
          refine regTake (i := 13) (v := ?vg99_13) rfl (by kernel_rfl) (by kernel_rfl) (by kernel_rfl) (fun _ _ _ h => h) (Or.inl ⟨by rfl, ?hyg99_13⟩) (by assumption) ?_
          case hyg99_13 => (intro w hSw; (try dsimp only at hSw); go_simp; (try with_reducible rfl))
          try simp only [Act.put, List.setIfInBounds_toArray, List.set_cons_zero, List.set_cons_succ]
          refine regTake (i := 14) (v := .bool true) rfl (by kernel_rfl) (by kernel_rfl) (by kernel_rfl) (fun _ _ _ h => h) (Or.inl ⟨by rfl, ?hyg99_14⟩) (by assumption) ?_
          case hyg99_14 => (intro w hSw; (try dsimp only at hSw); go_simp; (try with_reducible rfl))
          try simp only [Act.put, List.setIfInBounds_toArray, List.set_cons_zero, List.set_cons_succ]
          refine regTake (i := 15) (v := ?vg99_15) rfl (by kernel_rfl) (by kernel_rfl) (by kernel_rfl) (fun _ _ _ h => h) (Or.inl ⟨by rfl, ?hyg99_15⟩) (by assumption) ?_
          case hyg99_15 => (intro w hSw; (try dsimp only at hSw); go_simp; (try with_reducible rfl))
          try simp only [Act.put, List.setIfInBounds_toArray, List.set_cons_zero, List.set_cons_succ]
          refine regTake (i := 16) (v := ?vg99_16) rfl (by kernel_rfl) (by kernel_rfl) (by kernel_rfl) (fun _ _ _ h => h) (Or.inl ⟨by rfl, ?hyg99_16⟩) (by assumption) ?_
          case hyg99_16 => (intro w hSw; (try dsimp only at hSw); go_simp; (try with_reducible rfl))
          try simp only [Act.put, List.setIfInBounds_toArray, List.set_cons_zero, List.set_cons_succ]
          refine regTake (i := 17) (v := ?vg99_17) rfl (by kernel_rfl) (by kernel_rfl) (by kernel_rfl) (fun _ _ _ h => h) (Or.inl ⟨by rfl, ?hyg99_17⟩) (by assumption) ?_
          case hyg99_17 => (intro w hSw; (try dsimp only at hSw); go_simp; (try with_reducible rfl))
          try simp only [Act.put, List.setIfInBounds_toArray, List.set_cons_zero, List.set_cons_succ]
          refine regTake (i := 18) (v := ?vg99_18) rfl (by kernel_rfl) (by kernel_rfl) (by kernel_rfl) (fun _ _ _ h => h) (Or.inl ⟨by rfl, ?hyg99_18⟩) (by assumption) ?_
          case hyg99_18 => (intro w hSw; (try dsimp only at hSw); go_simp; (try with_reducible rfl))
          try simp only [Act.put, List.setIfInBounds_toArray, List.set_cons_zero, List.set_cons_succ]
          refine regTake (i := 19) (v := undef) rfl (by kernel_rfl) (by kernel_rfl) (by kernel_rfl) (fun _ _ _ h => h) (Or.inr ⟨by rfl, rfl⟩) (by assumption) ?_
          try simp only [Act.put, List.setIfInBounds_toArray, List.set_cons_zero, List.set_cons_succ]
          refine regTake (i := 20) (v := undef) rfl (by kernel_rfl) (by kernel_rfl) (by kernel_rfl) (fun _ _ _ h => h) (Or.inr ⟨by rfl, rfl⟩) (by assumption) ?_
          try simp only [Act.put, List.setIfInBounds_toArray, List.set_cons_zero, List.set_cons_succ]
          refine regTake (i := 21) (v := undef) rfl (by kernel_rfl) (by kernel_rfl) (by kernel_rfl) (fun _ _ _ h => h) (Or.inr ⟨by rfl, rfl⟩) (by assumption) ?_
          try simp only [Act.put, List.setIfInBounds_toArray, List.set_cons_zero, List.set_cons_succ]
          refine regTake (i := 22) (v := .bool true) rfl (by kernel_rfl) (by kernel_rfl) (by kernel_rfl) (fun _ _ _ h => h) (Or.inl ⟨by rfl, ?hyg99_22⟩) (by assumption) ?_
          case hyg99_22 => (intro w hSw; (try dsimp only at hSw); go_simp; (try with_reducible rfl))
          try simp only [Act.put, List.setIfInBounds_toArray, List.set_cons_zero, List.set_cons_succ]
          refine regTake (i := 23) (v := .bool true) rfl (by kernel_rfl) (by kernel_rfl) (by kernel_rfl) (fun _ _ _ h => h) (Or.inl ⟨by rfl, ?hyg99_23⟩) (by assumption) ?_
          case hyg99_23 => (intro w hSw; (try dsimp only at hSw); go_simp; (try with_reducible rfl))
          try simp only [Act.put, List.setIfInBounds_toArray, List.set_cons_zero, List.set_cons_succ]
          refine regTake (i := 24) (v := ?vg99_24) rfl (by kernel_rfl) (by kernel_rfl) (by kernel_rfl) (fun _ _ _ h => h) (Or.inl ⟨by rfl, ?hyg99_24⟩) (by assumption) ?_
          case hyg99_24 => (intro w hSw; (try dsimp only at hSw); go_simp; (try with_reducible rfl))
          try simp only [Act.put, List.setIfInBounds_toArray, List.set_cons_zero, List.set_cons_succ]
          refine wpAnyH_done (by kernel_rfl) ?_ _
          have hlg99_ := below_trans h096 hkg99_1
          replace xa4a := cell_keep xa4a hkg99_1
          replace xb4a := cell_keep xb4a hkg99_1
          replace xa4b := cell_keep xa4b hkg99_1
          replace xb4b := cell_keep xb4b hkg99_1
          replace xa10 := cell_keep xa10 hkg99_1
          replace xb10 := cell_keep xb10 hkg99_1
          replace xa14 := cell_keep xa14 hkg99_1
          replace xb14 := cell_keep xb14 hkg99_1
          replace xa21a := cell_keep xa21a hkg99_1
          replace xb21a := cell_keep xb21a hkg99_1
          replace xa21b := cell_keep xa21b hkg99_1
          replace xb21b := cell_keep xb21b hkg99_1
          replace xa21c := cell_keep xa21c hkg99_1
          replace xb21c := cell_keep xb21c hkg99_1
          replace xa61 := cell_keep xa61 hkg99_1
          replace xb61 := cell_keep xb61 hkg99_1
          replace xa90 := cell_keep xa90 hkg99_1
          replace xb90 := cell_keep xb90 hkg99_1
          replace xa95 := cell_keep xa95 hkg99_1
          replace xb95 := cell_keep xb95 hkg99_1
          go_wp2_with fail
          go_ret
          exact ⟨rfl, below_trans HBL.out hlg99_⟩
        · have EQ98 := hid hq98
          clear hq98
          have EQ108 := hid (show tyEq (meetOf t4a t4b) t4a = false from (by rw [← (meetOf_glb t4a t4b EQ7.out).2.2.2.2.2.2]; exact EQ98.out))
          go_wp2_with fail
          refine wp_region_held_drew (S := (fun w' => Below ((z95.alloc (Obj.cells #[.int .i64 k95, .slice a95 n95 c95] 25))).heap.size ((z95.alloc (Obj.cells #[.int .i64 k95, .slice a95 n95 c95] 25))) w' ∧ w'.cell? ⟨z4.heap.size, 0, none⟩ = some (.int .i64 k4a) ∧ w'.cell? ⟨z4.heap.size, 1, none⟩ = some (.slice a4a n4a c4a) ∧ w'.cell? ⟨z4.heap.size + 1, 0, none⟩ = some (.int .i64 k4b) ∧ w'.cell? ⟨z4.heap.size + 1, 1, none⟩ = some (.slice a4b n4b c4b) ∧ w'.cell? ⟨z10.heap.size, 0, none⟩ = some (.int .i64 k10) ∧ w'.cell? ⟨z10.heap.size, 1, none⟩ = some (.slice a10 n10 c10) ∧ w'.cell? ⟨z14.heap.size, 0, none⟩ = some (.int .i64 k14) ∧ w'.cell? ⟨z14.heap.size, 1, none⟩ = some (.slice a14 n14 c14) ∧ w'.cell? ⟨z21.heap.size, 0, none⟩ = some (.int .i64 k21a) ∧ w'.cell? ⟨z21.heap.size, 1, none⟩ = some (.slice a21a n21a c21a) ∧ w'.cell? ⟨z21.heap.size + 1, 0, none⟩ = some (.int .i64 k21b) ∧ w'.cell? ⟨z21.heap.size + 1, 1, none⟩ = some (.slice a21b n21b c21b) ∧ w'.cell? ⟨z21.heap.size + 1 + 1, 0, none⟩ = some (.int .i64 k21c) ∧ w'.cell? ⟨z21.heap.size + 1 + 1, 1, none⟩ = some (.slice a21c n21c c21c) ∧ w'.cell? ⟨z61.heap.size, 0, none⟩ = some (.int .i64 k61) ∧ w'.cell? ⟨z61.heap.size, 1, none⟩ = some (.slice a61 n61 c61) ∧ w'.cell? ⟨z90.heap.size, 0, none⟩ = some (.int .i64 k90) ∧ w'.cell? ⟨z90.heap.size, 1, none⟩ = some (.slice a90 n90 c90) ∧ w'.cell? ⟨z95.heap.size, 0, none⟩ = some (.int .i64 k95) ∧ w'.cell? ⟨z95.heap.size, 1, none⟩ = some (.slice a95 n95 c95))) (by kernel_rfl) ?_ (fun hS0 => ?_)
          · (refine (fun hB => ⟨hB, cell_keep xa4a hB, cell_keep xb4a hB, cell_keep xa4b hB, cell_keep xb4b hB, cell_keep xa10 hB, cell_keep xb10 hB, cell_keep xa14 hB, cell_keep xb14 hB, cell_keep xa21a hB, cell_keep xb21a hB, cell_keep xa21b hB, cell_keep xb21b hB, cell_keep xa21c hB, cell_keep xb21c hB, cell_keep xa61 hB, cell_keep xb61 hB, cell_keep xa90 hB, cell_keep xb90 hB, cell_keep xa95 hB, cell_keep xb95 hB⟩ : Below ((z95.alloc (Obj.cells #[.int .i64 k95, .slice a95 n95 c95] 25))).heap.size ((z95.alloc (Obj.cells #[.int .i64 k95, .slice a95 n95 c95] 25))) _ → _) ?_; exact below_drew _)
          refine regTake (i := 0) (v := ?vg105_0) rfl (by kernel_rfl) (by kernel_rfl) (by kernel_rfl) (fun _ _ _ h => h) (Or.inl ⟨by rfl, ?hyg105_0⟩) (by assumption) ?_
          case hyg105_0 => (intro w hSw; (try dsimp only at hSw); go_simp; (try with_reducible rfl))
          try simp only [Act.put, List.setIfInBounds_toArray, List.set_cons_zero, List.set_cons_succ]
          refine regTake (i := 1) (v := ?vg105_1) rfl (by kernel_rfl) (by kernel_rfl) (by kernel_rfl) (fun _ _ _ h => h) (Or.inl ⟨by rfl, ?hyg105_1⟩) (by assumption) ?_
          case hyg105_1 => (intro w hSw; (try dsimp only at hSw); go_simp; (try with_reducible rfl))
          try simp only [Act.put, List.setIfInBounds_toArray, List.set_cons_zero, List.set_cons_succ]
          refine regTake (i := 3) (v := ?vg105_3) rfl (by kernel_rfl) (by kernel_rfl) (by kernel_rfl) (fun _ _ _ h => h) (Or.inl ⟨by rfl, ?hyg105_3⟩) (by assumption) ?_
          case hyg105_3 => (intro w hSw; (try dsimp only at hSw); go_simp; (try with_reducible rfl))
          try simp only [Act.put, List.setIfInBounds_toArray, List.set_cons_zero, List.set_cons_succ]
          refine regTake (i := 4) (v := ?vg105_4) rfl (by kernel_rfl) (by kernel_rfl) (by kernel_rfl) (fun _ _ _ h => h) (Or.inl ⟨by rfl, ?hyg105_4⟩) (by assumption) ?_
          case hyg105_4 => (intro w hSw; (try dsimp only at hSw); go_simp; (try with_reducible rfl))
          try simp only [Act.put, List.setIfInBounds_toArray, List.set_cons_zero, List.set_cons_succ]
          refine wpAnyH_ready (rs := [2]) (by kernel_rfl) (by simp) ?_
          refine regCons rfl (fun K hK => ?_)
          go_simp
          have hc106 := implPrecise t4a t4b _ _ _ _ _ (HA4a.out.below (below_trans h096 (below_drew ((z95.alloc (Obj.cells #[.int .i64 k95, .slice a95 n95 c95] 25)))))) (HA4b.out.below (below_trans h096 (below_drew ((z95.alloc (Obj.cells #[.int .i64 k95, .slice a95 n95 c95] 25))))))
          rw [EQ98.out] at hc106
          refine hc106.mono ?_
          rintro e yg105_0 ⟨rfl, hyg105_0⟩
          have hkg105_0 := below_trans (below_drew ((z95.alloc (Obj.cells #[.int .i64 k95, .slice a95 n95 c95] 25)))) hyg105_0
          clear hc106
          refine hK.out _ _ ?_ (fun hS1 => ?_)
          · (refine (fun hB => ⟨hB, cell_keep xa4a hB, cell_keep xb4a hB, cell_keep xa4b hB, cell_keep xb4b hB, cell_keep xa10 hB, cell_keep xb10 hB, cell_keep xa14 hB, cell_keep xb14 hB, cell_keep xa21a hB, cell_keep xb21a hB, cell_keep xa21b hB, cell_keep xb21b hB, cell_keep xa21c hB, cell_keep xb21c hB, cell_keep xa61 hB, cell_keep xb61 hB, cell_keep xa90 hB, cell_keep xb90 hB, cell_keep xa95 hB, cell_keep xb95 hB⟩ : Below ((z95.alloc (Obj.cells #[.int .i64 k95, .slice a95 n95 c95] 25))).heap.size ((z95.alloc (Obj.cells #[.int .i64 k95, .slice a95 n95 c95] 25))) _ → _) ?_; exact hkg105_0)
          clear hK K hS0
          try simp only [Act.put, List.setIfInBounds_toArray, List.set_cons_zero, List.set_cons_succ]
          refine wpAnyH_ready (rs := [5]) (by kernel_rfl) (by simp) ?_
          refine regCons rfl (fun K hK => ?_)
          go_simp
          have hc109 := implTypeSame (meetOf t4a t4b) t4a _ _ _ _ _ (by have := HC10.out; omega) (HA10.out.below (below_trans h096 (hkg105_0))) (HA4a.out.below (below_trans h096 (hkg105_0))) (fun x hx => (HR10.out x hx).below (below_trans h096 (hkg105_0))) (fun x hx => (HR4a.out x hx).below (below_trans h096 (hkg105_0)))
          rw [EQ108.out] at hc109
          refine hc109.mono ?_
          rintro e yg105_1 ⟨rfl, hyg105_1⟩
          have hkg105_1 := below_trans (hkg105_0) hyg105_1
          clear hc109
          refine hK.out _ _ ?_ (fun hS2 => ?_)
          · (refine (fun hB => ⟨hB, cell_keep xa4a hB, cell_keep xb4a hB, cell_keep xa4b hB, cell_keep xb4b hB, cell_keep xa10 hB, cell_keep xb10 hB, cell_keep xa14 hB, cell_keep xb14 hB, cell_keep xa21a hB, cell_keep xb21a hB, cell_keep xa21b hB, cell_keep xb21b hB, cell_keep xa21c hB, cell_keep xb21c hB, cell_keep xa61 hB, cell_keep xb61 hB, cell_keep xa90 hB, cell_keep xb90 hB, cell_keep xa95 hB, cell_keep xb95 hB⟩ : Below ((z95.alloc (Obj.cells #[.int .i64 k95, .slice a95 n95 c95] 25))).heap.size ((z95.alloc (Obj.cells #[.int .i64 k95, .slice a95 n95 c95] 25))) _ → _) ?_; exact hkg105_1)
          clear hK K hS1
          try simp only [Act.put, List.setIfInBounds_toArray, List.set_cons_zero, List.set_cons_succ]
          refine regTake (i := 6) (v := ?vg105_6) rfl (by kernel_rfl) (by kernel_rfl) (by kernel_rfl) (fun _ _ _ h => h) (Or.inl ⟨by rfl, ?hyg105_6⟩) (by assumption) ?_
          case hyg105_6 => (intro w hSw; (try dsimp only at hSw); go_simp; (try with_reducible rfl))
          try simp only [Act.put, List.setIfInBounds_toArray, List.set_cons_zero, List.set_cons_succ]
          refine regTake (i := 7) (v := ?vg105_7) rfl (by kernel_rfl) (by kernel_rfl) (by kernel_rfl) (fun _ _ _ h => h) (Or.inl ⟨by rfl, ?hyg105_7⟩) (by assumption) ?_
          case hyg105_7 => (intro w hSw; (try dsimp only at hSw); go_simp; (try with_reducible rfl))
          try simp only [Act.put, List.setIfInBounds_toArray, List.set_cons_zero, List.set_cons_succ]
          refine regTake (i := 8) (v := ?vg105_8) rfl (by kernel_rfl) (by kernel_rfl) (by kernel_rfl) (fun _ _ _ h => h) (Or.inl ⟨by rfl, ?hyg105_8⟩) (by assumption) ?_
          case hyg105_8 => (intro w hSw; (try dsimp only at hSw); go_simp; (try with_reducible rfl))
          try simp only [Act.put, List.setIfInBounds_toArray, List.set_cons_zero, List.set_cons_succ]
          refine regTake (i := 9) (v := ?vg105_9) rfl (by kernel_rfl) (by kernel_rfl) (by kernel_rfl) (fun _ _ _ h => h) (Or.inl ⟨by rfl, ?hyg105_9⟩) (by assumption) ?_
          case hyg105_9 => (intro w hSw; (try dsimp only at hSw); go_simp; (try with_reducible rfl))
          try simp only [Act.put, List.setIfInBounds_toArray, List.set_cons_zero, List.set_cons_succ]
          refine regTake (i := 10) (v := ?vg105_10) rfl (by kernel_rfl) (by kernel_rfl) (by kernel_rfl) (fun _ _ _ h => h) (Or.inl ⟨by rfl, ?hyg105_10⟩) (by assumption) ?_
          case hyg105_10 => (intro w hSw; (try dsimp only at hSw); go_simp; (try with_reducible rfl))
          try simp only [Act.put, List.setIfInBounds_toArray, List.set_cons_zero, List.set_cons_succ]
          refine regTake (i := 11) (v := undef) rfl (by kernel_rfl) (by kernel_rfl) (by kernel_rfl) (fun _ _ _ h => h) (Or.inr ⟨by rfl, rfl⟩) (by assumption) ?_
          try simp only [Act.put, List.setIfInBounds_toArray, List.set_cons_zero, List.set_cons_succ]
          refine regTake (i := 12) (v := .bool false) rfl (by kernel_rfl) (by kernel_rfl) (by kernel_rfl) (fun _ _ _ h => h) (Or.inl ⟨by rfl, ?hyg105_12⟩) (by assumption) ?_
          case hyg105_12 => (intro w hSw; (try dsimp only at hSw); go_simp; (try with_reducible rfl))
          try simp only [Act.put, List.setIfInBounds_toArray, List.set_cons_zero, List.set_cons_succ]
          refine regTake (i := 13) (v := ?vg105_13) rfl (by kernel_rfl) (by kernel_rfl) (by kernel_rfl) (fun _ _ _ h => h) (Or.inl ⟨by rfl, ?hyg105_13⟩) (by assumption) ?_
          case hyg105_13 => (intro w hSw; (try dsimp only at hSw); go_simp; (try with_reducible rfl))
          try simp only [Act.put, List.setIfInBounds_toArray, List.set_cons_zero, List.set_cons_succ]
          refine regTake (i := 14) (v := .bool true) rfl (by kernel_rfl) (by kernel_rfl) (by kernel_rfl) (fun _ _ _ h => h) (Or.inl ⟨by rfl, ?hyg105_14⟩) (by assumption) ?_
          case hyg105_14 => (intro w hSw; (try dsimp only at hSw); go_simp; (try with_reducible rfl))
          try simp only [Act.put, List.setIfInBounds_toArray, List.set_cons_zero, List.set_cons_succ]
          refine regTake (i := 15) (v := ?vg105_15) rfl (by kernel_rfl) (by kernel_rfl) (by kernel_rfl) (fun _ _ _ h => h) (Or.inl ⟨by rfl, ?hyg105_15⟩) (by assumption) ?_
          case hyg105_15 => (intro w hSw; (try dsimp only at hSw); go_simp; (try with_reducible rfl))
          try simp only [Act.put, List.setIfInBounds_toArray, List.set_cons_zero, List.set_cons_succ]
          refine regTake (i := 16) (v := ?vg105_16) rfl (by kernel_rfl) (by kernel_rfl) (by kernel_rfl) (fun _ _ _ h => h) (Or.inl ⟨by rfl, ?hyg105_16⟩) (by assumption) ?_
          case hyg105_16 => (intro w hSw; (try dsimp only at hSw); go_simp; (try with_reducible rfl))
          try simp only [Act.put, List.setIfInBounds_toArray, List.set_cons_zero, List.set_cons_succ]
          refine regTake (i := 17) (v := ?vg105_17) rfl (by kernel_rfl) (by kernel_rfl) (by kernel_rfl) (fun _ _ _ h => h) (Or.inl ⟨by rfl, ?hyg105_17⟩) (by assumption) ?_
          case hyg105_17 => (intro w hSw; (try dsimp only at hSw); go_simp; (try with_reducible rfl))
          try simp only [Act.put, List.setIfInBounds_toArray, List.set_cons_zero, List.set_cons_succ]
          refine regTake (i := 18) (v := ?vg105_18) rfl (by kernel_rfl) (by kernel_rfl) (by kernel_rfl) (fun _ _ _ h => h) (Or.inl ⟨by rfl, ?hyg105_18⟩) (by assumption) ?_
          case hyg105_18 => (intro w hSw; (try dsimp only at hSw); go_simp; (try with_reducible rfl))
          try simp only [Act.put, List.setIfInBounds_toArray, List.set_cons_zero, List.set_cons_succ]
          refine regTake (i := 19) (v := undef) rfl (by kernel_rfl) (by kernel_rfl) (by kernel_rfl) (fun _ _ _ h => h) (Or.inr ⟨by rfl, rfl⟩) (by assumption) ?_
          try simp only [Act.put, List.setIfInBounds_toArray, List.set_cons_zero, List.set_cons_succ]
          refine regTake (i := 20) (v := undef) rfl (by kernel_rfl) (by kernel_rfl) (by kernel_rfl) (fun _ _ _ h => h) (Or.inr ⟨by rfl, rfl⟩) (by assumption) ?_
          try simp only [Act.put, List.setIfInBounds_toArray, List.set_cons_zero, List.set_cons_succ]
          refine regTake (i := 21) (v := undef) rfl (by kernel_rfl) (by kernel_rfl) (by kernel_rfl) (fun _ _ _ h => h) (Or.inr ⟨by rfl, rfl⟩) (by assumption) ?_
          try simp only [Act.put, List.setIfInBounds_toArray, List.set_cons_zero, List.set_cons_succ]
          refine regTake (i := 22) (v := .bool true) rfl (by kernel_rfl) (by kernel_rfl) (by kernel_rfl) (fun _ _ _ h => h) (Or.inl ⟨by rfl, ?hyg105_22⟩) (by assumption) ?_
          case hyg105_22 => (intro w hSw; (try dsimp only at hSw); go_simp; (try with_reducible rfl))
          try simp only [Act.put, List.setIfInBounds_toArray, List.set_cons_zero, List.set_cons_succ]
          refine regTake (i := 23) (v := .bool true) rfl (by kernel_rfl) (by kernel_rfl) (by kernel_rfl) (fun _ _ _ h => h) (Or.inl ⟨by rfl, ?hyg105_23⟩) (by assumption) ?_
          case hyg105_23 => (intro w hSw; (try dsimp only at hSw); go_simp; (try with_reducible rfl))
          try simp only [Act.put, List.setIfInBounds_toArray, List.set_cons_zero, List.set_cons_succ]
          refine regTake (i := 24) (v := ?vg105_24) rfl (by kernel_rfl) (by kernel_rfl) (by kernel_rfl) (fun _ _ _ h => h) (Or.inl ⟨by rfl, ?hyg105_24⟩) (by assumption) ?_
          case hyg105_24 => (intro w hSw; (try dsimp only at hSw); go_simp; (try with_reducible rfl))
          try simp only [Act.put, List.setIfInBounds_toArray, List.set_cons_zero, List.set_cons_succ]
          refine wpAnyH_done (by kernel_rfl) ?_ _
          have hlg105_ := below_trans h096 hkg105_1
          replace xa4a := cell_keep xa4a hkg105_1
          replace xb4a := cell_keep xb4a hkg105_1
          replace xa4b := cell_keep xa4b hkg105_1
          replace xb4b := cell_keep xb4b hkg105_1
          replace xa10 := cell_keep xa10 hkg105_1
          replace xb10 := cell_keep xb10 hkg105_1
          replace xa14 := cell_keep xa14 hkg105_1
          replace xb14 := cell_keep xb14 hkg105_1
          replace xa21a := cell_keep xa21a hkg105_1
          replace xb21a := cell_keep xb21a hkg105_1
          replace xa21b := cell_keep xa21b hkg105_1
          replace xb21b := cell_keep xb21b hkg105_1
          replace xa21c := cell_keep xa21c hkg105_1
          replace xb21c := cell_keep xb21c hkg105_1
          replace xa61 := cell_keep xa61 hkg105_1
          replace xb61 := cell_keep xb61 hkg105_1
          replace xa90 := cell_keep xa90 hkg105_1
          replace xb90 := cell_keep xb90 hkg105_1
          replace xa95 := cell_keep xa95 hkg105_1
          replace xb95 := cell_keep xb95 hkg105_1
          go_wp2_with fail
          go_ret
          exact ⟨rfl, below_trans HBL.out hlg105_⟩
  · have EQ7 := hid hq7
    clear hq7
    go_wp2_with fail
    have hc112 := implMeetTypes t4a t4b _ _ _ _ _ (HA4a.out.below h05) (HA4b.out.below h05) (by have := HC4a.out; omega) (by have := HC4b.out; omega)
    rw [EQ7.out] at hc112
    refine hc112.mono ?_
    rintro e z113 ⟨v113, f113, rfl, ht113, hf113, hz113⟩
    obtain ⟨k113, n113, a113, c113, rfl⟩ := ht113.agg
    clear hc112
    have hba114 : Below z113.heap.size z113 (z113.alloc (Obj.cells #[.int .i64 k113, .slice a113 n113 c113] 25)) := ((Below.refl _ _).alloc (Nat.le_refl _) _)
    have hbb114 := below_trans hz113 hba114
    have hbc114 := below_trans h05 hbb114
    replace HA4a := hid (HA4a.out.below hbc114)
    replace HR4a := hid (fun x hx => (HR4a.out x hx).below hbc114)
    replace HA4b := hid (HA4b.out.below hbc114)
    replace HR4b := hid (fun x hx => (HR4b.out x hx).below hbc114)
    replace HBL := hid (below_trans HBL.out hbc114)
    replace xa4a := cell_keep xa4a hbb114
    replace xb4a := cell_keep xb4a hbb114
    replace xa4b := cell_keep xa4b hbb114
    replace xb4b := cell_keep xb4b hbb114
    have HA113 := hid (ht113.below hba114)
    have HR113 := hid (show ∀ x ∈ f113, Raw (z113.alloc (Obj.cells #[.int .i64 k113, .slice a113 n113 c113] 25)) x from fun x hx => Raw.below (Fresh.raw ht113 hf113 x hx) hba114)
    have HC113 := hid (show (meetOf t4a t4b).cnt ≤ 200 from (Nat.le_trans (meetOf_cnt t4a t4b) (by have := HC4a.out; have := HC4b.out; omega)))
    have hl114 := lay1 z113 (Obj.cells #[.int .i64 k113, .slice a113 n113 c113] 25)
    have xa113 : ((z113.alloc (Obj.cells #[.int .i64 k113, .slice a113 n113 c113] 25))).cell? ⟨z113.heap.size, 0, none⟩ = some (.int .i64 k113) := by rw [cell_of_block hl114]; rfl
    have xb113 : ((z113.alloc (Obj.cells #[.int .i64 k113, .slice a113 n113 c113] 25))).cell? ⟨z113.heap.size, 1, none⟩ = some (.slice a113 n113 c113) := by rw [cell_of_block hl114]; rfl
    have h0114 := Below.refl ((z113.alloc (Obj.cells #[.int .i64 k113, .slice a113 n113 c113] 25))).heap.size (z113.alloc (Obj.cells #[.int .i64 k113, .slice a113 n113 c113] 25))
    clear ht113
    clear hba114 hbb114 hbc114 hl114 hz113
    go_wp2_with fail
    have hc116 := specMeetTypes t4a t4b _ _ _ _ _ (HA4a.out.below h0114) (HA4b.out.below h0114) (by have := HC4a.out; omega) (by have := HC4b.out; omega)
    rw [EQ7.out] at hc116
    refine hc116.mono ?_
    rintro e z117 ⟨v117, f117, rfl, ht117, hf117, hz117⟩
    obtain ⟨k117, n117, a117, c117, rfl⟩ := ht117.agg
    clear hc116
    have hba118 : Below z117.heap.size z117 (z117.alloc (Obj.cells #[.int .i64 k117, .slice a117 n117 c117] 25)) := ((Below.refl _ _).alloc (Nat.le_refl _) _)
    have hbb118 := below_trans hz117 hba118
    have hbc118 := below_trans h0114 hbb118
    replace HA4a := hid (HA4a.out.below hbc118)
    replace HR4a := hid (fun x hx => (HR4a.out x hx).below hbc118)
    replace HA4b := hid (HA4b.out.below hbc118)
    replace HR4b := hid (fun x hx => (HR4b.out x hx).below hbc118)
    replace HA113 := hid (HA113.out.below hbc118)
    replace HR113 := hid (fun x hx => (HR113.out x hx).below hbc118)
    replace HBL := hid (below_trans HBL.out hbc118)
    replace xa4a := cell_keep xa4a hbb118
    replace xb4a := cell_keep xb4a hbb118
    replace xa4b := cell_keep xa4b hbb118
    replace xb4b := cell_keep xb4b hbb118
    replace xa113 := cell_keep xa113 hbb118
    replace xb113 := cell_keep xb113 hbb118
    have HA117 := hid (ht117.below hba118)
    have HR117 := hid (show ∀ x ∈ f117, Raw (z117.alloc (Obj.cells #[.int .i64 k117, .slice a117 n117 c117] 25)) x from fun x hx => Raw.below (Fresh.raw ht117 hf117 x hx) hba118)
    have HC117 := hid (show (meetOf t4a t4b).cnt ≤ 200 from (Nat.le_trans (meetOf_cnt t4a t4b) (by have := HC4a.out; have := HC4b.out; omega)))
    have hl118 := lay1 z117 (Obj.cells #[.int .i64 k117, .slice a117 n117 c117] 25)
    have xa117 : ((z117.alloc (Obj.cells #[.int .i64 k117, .slice a117 n117 c117] 25))).cell? ⟨z117.heap.size, 0, none⟩ = some (.int .i64 k117) := by rw [cell_of_block hl118]; rfl
    have xb117 : ((z117.alloc (Obj.cells #[.int .i64 k117, .slice a117 n117 c117] 25))).cell? ⟨z117.heap.size, 1, none⟩ = some (.slice a117 n117 c117) := by rw [cell_of_block hl118]; rfl
    have h0118 := Below.refl ((z117.alloc (Obj.cells #[.int .i64 k117, .slice a117 n117 c117] 25))).heap.size (z117.alloc (Obj.cells #[.int .i64 k117, .slice a117 n117 c117] 25))
    clear ht117
    clear hba118 hbb118 hbc118 hl118 hz117
    have EQ120 := hid (show tyEq (meetOf t4a t4b) (meetOf t4a t4b) = true from tyEq_refl (meetOf t4a t4b))
    go_wp2_with fail
    have hc121 := implTypeSame (meetOf t4a t4b) (meetOf t4a t4b) _ _ _ _ _ (by have := HC113.out; omega) (HA113.out.below h0118) (HA117.out.below h0118) (fun x hx => (HR113.out x hx).below h0118) (fun x hx => (HR117.out x hx).below h0118)
    rw [EQ120.out] at hc121
    refine hc121.mono ?_
    rintro e z122 ⟨rfl, hz122⟩
    have hq122 := below_trans h0118 hz122
    replace xa4a := cell_keep xa4a hz122
    replace xb4a := cell_keep xb4a hz122
    replace xa4b := cell_keep xa4b hz122
    replace xb4b := cell_keep xb4b hz122
    replace xa113 := cell_keep xa113 hz122
    replace xb113 := cell_keep xb113 hz122
    replace xa117 := cell_keep xa117 hz122
    replace xb117 := cell_keep xb117 hz122
    clear hc121 hz122
    go_wp2_with fail
    have hc124 := implTypeSame (meetOf t4a t4b) (meetOf t4a t4b) _ _ _ _ _ (by have := HC113.out; omega) (HA113.out.below hq122) (HA117.out.below hq122) (fun x hx => (HR113.out x hx).below hq122) (fun x hx => (HR117.out x hx).below hq122)
    rw [EQ120.out] at hc124
    refine hc124.mono ?_
    rintro e z125 ⟨rfl, hz125⟩
    have hq125 := below_trans hq122 hz125
    replace xa4a := cell_keep xa4a hz125
    replace xb4a := cell_keep xb4a hz125
    replace xa4b := cell_keep xa4b hz125
    replace xb4b := cell_keep xb4b hz125
    replace xa113 := cell_keep xa113 hz125
    replace xb113 := cell_keep xb113 hz125
    replace xa117 := cell_keep xa117 hz125
    replace xb117 := cell_keep xb117 hz125
    clear hc124 hz125
    go_wp2_with fail
    go_ret
    exact ⟨rfl, below_trans HBL.out hq125⟩
end Go.Proofs.Ytelbpgdlcnnabaa
