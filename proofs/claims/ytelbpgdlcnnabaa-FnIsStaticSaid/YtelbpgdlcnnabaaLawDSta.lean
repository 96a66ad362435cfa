/- The law FnIsStatic: it returns true and writes nothing that was there. -/
import Derived.Test.YtelbpgdlcnnabaaDvS
import Derived.Test.YtelbpgdlcnnabaaStP
import Derived.Test.YtelbpgdlcnnabaaReg
import Derived.Test.YtelbpgdlcnnabaaRaw
import Derived.Test.YtelbpgdlcnnabaaAny
import Derived.Test.YtelbpgdlcnnabaaStat
import Derived.Test.YtelbpgdlcnnabaaRel
import Derived.Deep.RegionHeld3
namespace Go.Proofs.Ytelbpgdlcnnabaa
open Go.RowKit

/-- Boxes that have just been laid. -/
theorem lay1 (w : World) (o1 : Obj) : (w.alloc o1).heap[w.heap.size]? = some o1 := alloc_new _ _
theorem lay2 (w : World) (o1 o2 : Obj) : ((w.alloc o1).alloc o2).heap[w.heap.size]? = some o1 ∧ ((w.alloc o1).alloc o2).heap[w.heap.size + 1]? = some o2 := by
  have h2 := alloc_new (w.alloc o1) o2
  have hs : (w.alloc o1).heap.size = w.heap.size + 1 := by simp
  rw [hs] at h2
  exact ⟨(Below.heap_alloc _ _ _ (by simp)).trans (alloc_new _ _), h2⟩
theorem lay3 (w : World) (o1 o2 o3 : Obj) : (((w.alloc o1).alloc o2).alloc o3).heap[w.heap.size]? = some o1 ∧ (((w.alloc o1).alloc o2).alloc o3).heap[w.heap.size + 1]? = some o2 ∧ (((w.alloc o1).alloc o2).alloc o3).heap[w.heap.size + 1 + 1]? = some o3 := by
  obtain ⟨a, b⟩ := lay2 w o1 o2
  have h3 := alloc_new ((w.alloc o1).alloc o2) o3
  have hs : ((w.alloc o1).alloc o2).heap.size = w.heap.size + 1 + 1 := by simp
  rw [hs] at h3
  exact ⟨(Below.heap_alloc _ _ _ (by simp; omega)).trans a, (Below.heap_alloc _ _ _ (by simp)).trans b, h3⟩


set_option linter.unusedSimpArgs false in
set_option linter.unusedVariables false in
set_option maxRecDepth 100000 in
set_option maxHeartbeats 16000000 in
theorem lawDSta (a00 : Option Addr) (n00 cap00 : Nat) (a01 : Option Addr) (n01 cap01 : Nat) (w : World) (hB0 : BytA w a00 n00) (hn0 : n00 ≤ cap00) (hm0 : cap00 ≤ maxLen) (hB1 : BytA w a01 n01) (hn1 : n01 ≤ cap01) (hm1 : cap01 ≤ maxLen) :
    Calls Try.prog 7 #[.slice a00 n00 cap00, .slice a01 n01 cap01] w fun e w' => e = .returned (.bool true) ∧ Below w.heap.size w w' := by
  by_cases hl0 : (n00 : Int) > 1048576
  · clear hB0 hB1
    go_enter Try.func7, Try.ntmps7
    go_wp2_with fail
    go_ret
    exact ⟨rfl, Below.refl _ _⟩
  by_cases hl1 : (n01 : Int) > 1048576
  · clear hB0 hB1
    go_enter Try.func7, Try.ntmps7
    go_wp2_with fail
    go_ret
    exact ⟨rfl, Below.refl _ _⟩
  have HBY0 := hid hB0
  have HNN0 := hid hn0
  have HMM0 := hid hm0
  have HBY1 := hid hB1
  have HNN1 := hid hn1
  have HMM1 := hid hm1
  clear hB0 hn0 hm0 hB1 hn1 hm1
  go_enter Try.func7, Try.ntmps7
  go_wp2_with fail
  refine (drawStatic_any a00 n00 cap00 _ (HBY0.out.below (Below.refl _ _)) HNN0.out HMM0.out).mono ?_
  rintro e z4 ⟨t4a, v4a, f4a, rfl, hs4, ht4a, hg4a, hz4⟩
  obtain ⟨k4a, n4a, a4a, c4a, rfl⟩ := ht4a.agg
  have hba5 : Below z4.heap.size z4 (z4.alloc (Obj.cells #[.int .i64 k4a, .slice a4a n4a c4a] 25)) := ((Below.refl _ _).alloc (Nat.le_refl _) _)
  have hbb5 := below_trans hz4 hba5
  have hbc5 := hbb5
  have HBL := hid hbc5
  have HA4a := hid (ht4a.below hba5)
  have HR4a := hid (show ∀ x ∈ f4a, Raw (z4.alloc (Obj.cells #[.int .i64 k4a, .slice a4a n4a c4a] 25)) x from fun x hx => Raw.below ⟨ht4a.laid x hx, (hg4a x hx).2⟩ hba5)
  have HC4a := hid (show (t4a).cnt ≤ 100 from hs4)
  have hl5 := lay1 z4 (Obj.cells #[.int .i64 k4a, .slice a4a n4a c4a] 25)
  have xa4a : ((z4.alloc (Obj.cells #[.int .i64 k4a, .slice a4a n4a c4a] 25))).cell? ⟨z4.heap.size, 0, none⟩ = some (.int .i64 k4a) := by rw [cell_of_block hl5]; rfl
  have xb4a : ((z4.alloc (Obj.cells #[.int .i64 k4a, .slice a4a n4a c4a] 25))).cell? ⟨z4.heap.size, 1, none⟩ = some (.slice a4a n4a c4a) := by rw [cell_of_block hl5]; rfl
  have h05 := Below.refl ((z4.alloc (Obj.cells #[.int .i64 k4a, .slice a4a n4a c4a] 25))).heap.size (z4.alloc (Obj.cells #[.int .i64 k4a, .slice a4a n4a c4a] 25))
  clear ht4a
  clear hba5 hbb5 hbc5 hl5 hz4
  rcases Bool.eq_false_or_eq_true (staOf t4a) with hq7 | hq7
  · have EQ7 := hid hq7
    clear hq7
    go_wp2_with fail
    have hc9 := implIsStatic t4a _ _ _ (HA4a.out.below h05) (by have := HC4a.out; omega)
    rw [EQ7.out] at hc9
    refine hc9.mono ?_
    rintro e z10 ⟨rfl, hz10⟩
    have hq10 := below_trans h05 hz10
    replace xa4a := cell_keep xa4a hz10
    replace xb4a := cell_keep xb4a hz10
    clear hc9 hz10
    go_wp2_with fail
    have hc12 := specIsStatic t4a _ _ _ (HA4a.out.below hq10) (by have := HC4a.out; omega)
    rw [EQ7.out] at hc12
    refine hc12.mono ?_
    rintro e z13 ⟨rfl, hz13⟩
    have hq13 := below_trans hq10 hz13
    replace xa4a := cell_keep xa4a hz13
    replace xb4a := cell_keep xb4a hz13
    clear hc12 hz13
    have EQ14 := hid (show vld t4a = true from (sta_pure t4a EQ7.out).1)
    go_wp2_with fail
    have hc15 := implTypeValid_any t4a _ _ _ (HA4a.out.below hq13)
    rw [EQ14.out] at hc15
    refine hc15.mono ?_
    rintro e z16 ⟨rfl, hz16⟩
    have hq16 := below_trans hq13 hz16
    replace xa4a := cell_keep xa4a hz16
    replace xb4a := cell_keep xb4a hz16
    clear hc15 hz16
    have EQ17 := hid (show anyOf t4a = 0 from (sta_pure t4a EQ7.out).2)
    go_wp2_with fail
    have hc18 := implCountAny t4a _ _ _ (HA4a.out.below hq16) (by have := HC4a.out; omega)
    rw [EQ17.out] at hc18
    refine hc18.mono ?_
    rintro e z19 ⟨rfl, hz19⟩
    have hq19 := below_trans hq16 hz19
    replace xa4a := cell_keep xa4a hz19
    replace xb4a := cell_keep xb4a hz19
    clear hc18 hz19
    go_wp2_with fail
    refine (drawChain_any a01 n01 cap01 _ (HBY1.out.below (below_trans HBL.out hq19)) HNN1.out HMM1.out).mono ?_
    rintro e z21 ⟨t21a, t21b, t21c, v21a, v21b, v21c, f21a, f21b, f21c, rfl, ht21a, ht21b, ht21c, ⟨hs21, hg21a, hg21b, hs21b⟩, hz21⟩
    obtain ⟨k21a, n21a, a21a, c21a, rfl⟩ := ht21a.agg
    obtain ⟨k21b, n21b, a21b, c21b, rfl⟩ := ht21b.agg
    obtain ⟨k21c, n21c, a21c, c21c, rfl⟩ := ht21c.agg
    have hba22 : Below z21.heap.size z21 (((z21.alloc (Obj.cells #[.int .i64 k21a, .slice a21a n21a c21a] 25)).alloc (Obj.cells #[.int .i64 k21b, .slice a21b n21b c21b] 25)).alloc (Obj.cells #[.int .i64 k21c, .slice a21c n21c c21c] 25)) := ((((Below.refl _ _).alloc (Nat.le_refl _) _).alloc (by simp) _).alloc (by simp; omega) _)
    have hbb22 := below_trans hz21 hba22
    have hbc22 := below_trans hq19 hbb22
    replace HA4a := hid (HA4a.out.below hbc22)
    replace HR4a := hid (fun x hx => (HR4a.out x hx).below hbc22)
    replace HBL := hid (below_trans HBL.out hbc22)
    replace xa4a := cell_keep xa4a hbb22
    replace xb4a := cell_keep xb4a hbb22
    have HA21a := hid (ht21a.below hba22)
    have HR21a := hid (show ∀ x ∈ f21a, Raw (((z21.alloc (Obj.cells #[.int .i64 k21a, .slice a21a n21a c21a] 25)).alloc (Obj.cells #[.int .i64 k21b, .slice a21b n21b c21b] 25)).alloc (Obj.cells #[.int .i64 k21c, .slice a21c n21c c21c] 25)) x from fun x hx => Raw.below ⟨ht21a.laid x hx, hg21a x hx⟩ hba22)
    have HC21a := hid (show (t21a).cnt ≤ 100 from hs21)
    have HA21b := hid (ht21b.below hba22)
    have HR21b := hid (show ∀ x ∈ f21b, Raw (((z21.alloc (Obj.cells #[.int .i64 k21a, .slice a21a n21a c21a] 25)).alloc (Obj.cells #[.int .i64 k21b, .slice a21b n21b c21b] 25)).alloc (Obj.cells #[.int .i64 k21c, .slice a21c n21c c21c] 25)) x from fun x hx => Raw.below ⟨ht21b.laid x hx, hg21b x hx⟩ hba22)
    have HC21b := hid (show (t21b).cnt ≤ 100 from hs21b)
    have HA21c := hid (ht21c.below hba22)
    have hl22 := lay3 z21 (Obj.cells #[.int .i64 k21a, .slice a21a n21a c21a] 25) (Obj.cells #[.int .i64 k21b, .slice a21b n21b c21b] 25) (Obj.cells #[.int .i64 k21c, .slice a21c n21c c21c] 25)
    have xa21a : ((((z21.alloc (Obj.cells #[.int .i64 k21a, .slice a21a n21a c21a] 25)).alloc (Obj.cells #[.int .i64 k21b, .slice a21b n21b c21b] 25)).alloc (Obj.cells #[.int .i64 k21c, .slice a21c n21c c21c] 25))).cell? ⟨z21.heap.size, 0, none⟩ = some (.int .i64 k21a) := by rw [cell_of_block hl22.1]; rfl
    have xb21a : ((((z21.alloc (Obj.cells #[.int .i64 k21a, .slice a21a n21a c21a] 25)).alloc (Obj.cells #[.int .i64 k21b, .slice a21b n21b c21b] 25)).alloc (Obj.cells #[.int .i64 k21c, .slice a21c n21c c21c] 25))).cell? ⟨z21.heap.size, 1, none⟩ = some (.slice a21a n21a c21a) := by rw [cell_of_block hl22.1]; rfl
    have xa21b : ((((z21.alloc (Obj.cells #[.int .i64 k21a, .slice a21a n21a c21a] 25)).alloc (Obj.cells #[.int .i64 k21b, .slice a21b n21b c21b] 25)).alloc (Obj.cells #[.int .i64 k21c, .slice a21c n21c c21c] 25))).cell? ⟨z21.heap.size + 1, 0, none⟩ = some (.int .i64 k21b) := by rw [cell_of_block hl22.2.1]; rfl
    have xb21b : ((((z21.alloc (Obj.cells #[.int .i64 k21a, .slice a21a n21a c21a] 25)).alloc (Obj.cells #[.int .i64 k21b, .slice a21b n21b c21b] 25)).alloc (Obj.cells #[.int .i64 k21c, .slice a21c n21c c21c] 25))).cell? ⟨z21.heap.size + 1, 1, none⟩ = some (.slice a21b n21b c21b) := by rw [cell_of_block hl22.2.1]; rfl
    have xa21c : ((((z21.alloc (Obj.cells #[.int .i64 k21a, .slice a21a n21a c21a] 25)).alloc (Obj.cells #[.int .i64 k21b, .slice a21b n21b c21b] 25)).alloc (Obj.cells #[.int .i64 k21c, .slice a21c n21c c21c] 25))).cell? ⟨z21.heap.size + 1 + 1, 0, none⟩ = some (.int .i64 k21c) := by rw [cell_of_block hl22.2.2]; rfl
    have xb21c : ((((z21.alloc (Obj.cells #[.int .i64 k21a, .slice a21a n21a c21a] 25)).alloc (Obj.cells #[.int .i64 k21b, .slice a21b n21b c21b] 25)).alloc (Obj.cells #[.int .i64 k21c, .slice a21c n21c c21c] 25))).cell? ⟨z21.heap.size + 1 + 1, 1, none⟩ = some (.slice a21c n21c c21c) := by rw [cell_of_block hl22.2.2]; rfl
    have h022 := Below.refl ((((z21.alloc (Obj.cells #[.int .i64 k21a, .slice a21a n21a c21a] 25)).alloc (Obj.cells #[.int .i64 k21b, .slice a21b n21b c21b] 25)).alloc (Obj.cells #[.int .i64 k21c, .slice a21c n21c c21c] 25))).heap.size (((z21.alloc (Obj.cells #[.int .i64 k21a, .slice a21a n21a c21a] 25)).alloc (Obj.cells #[.int .i64 k21b, .slice a21b n21b c21b] 25)).alloc (Obj.cells #[.int .i64 k21c, .slice a21c n21c c21c] 25))
    clear ht21a
    clear ht21b
    clear ht21c
    clear hba22 hbb22 hbc22 hl22 hz21
    rcases Bool.eq_false_or_eq_true (precOf t21a t4a) with hq24 | hq24
    · have EQ24 := hid hq24
      clear hq24
      go_wp2_with fail
      have hc26 := implPrecise t21a t4a _ _ _ _ _ (HA21a.out.below h022) (HA4a.out.below h022)
      rw [EQ24.out] at hc26
      refine hc26.mono ?_
      rintro e z27 ⟨rfl, hz27⟩
      have hq27 := below_trans h022 hz27
      replace xa4a := cell_keep xa4a hz27
      replace xb4a := cell_keep xb4a hz27
      replace xa21a := cell_keep xa21a hz27
      replace xb21a := cell_keep xb21a hz27
      replace xa21b := cell_keep xa21b hz27
      replace xb21b := cell_keep xb21b hz27
      replace xa21c := cell_keep xa21c hz27
      replace xb21c := cell_keep xb21c hz27
      clear hc26 hz27
      have EQ28 := hid (show tyEq t21a t4a = true from sta_min t21a t4a EQ24.out EQ7.out)
      go_wp2_with fail
      have hc29 := implTypeSame t21a t4a _ _ _ _ _ (by have := HC21a.out; omega) (HA21a.out.below hq27) (HA4a.out.below hq27) (fun x hx => (HR21a.out x hx).below hq27) (fun x hx => (HR4a.out x hx).below hq27)
      rw [EQ28.out] at hc29
      refine hc29.mono ?_
      rintro e z30 ⟨rfl, hz30⟩
      have hq30 := below_trans hq27 hz30
      replace xa4a := cell_keep xa4a hz30
      replace xb4a := cell_keep xb4a hz30
      replace xa21a := cell_keep xa21a hz30
      replace xb21a := cell_keep xb21a hz30
      replace xa21b := cell_keep xa21b hz30
      replace xb21b := cell_keep xb21b hz30
      replace xa21c := cell_keep xa21c hz30
      replace xb21c := cell_keep xb21c hz30
      clear hc29 hz30
      go_wp2_with fail
      go_ret
      exact ⟨rfl, below_trans HBL.out hq30⟩
    · have EQ24 := hid hq24
      clear hq24
      go_wp2_with fail
      have hc32 := implPrecise t21a t4a _ _ _ _ _ (HA21a.out.below h022) (HA4a.out.below h022)
      rw [EQ24.out] at hc32
      refine hc32.mono ?_
      rintro e z33 ⟨rfl, hz33⟩
      have hq33 := below_trans h022 hz33
      replace xa4a := cell_keep xa4a hz33
      replace xb4a := cell_keep xb4a hz33
      replace xa21a := cell_keep xa21a hz33
      replace xb21a := cell_keep xb21a hz33
      replace xa21b := cell_keep xa21b hz33
      replace xb21b := cell_keep xb21b hz33
      replace xa21c := cell_keep xa21c hz33
      replace xb21c := cell_keep xb21c hz33
      clear hc32 hz33
      go_wp2_with fail
      go_ret
      exact ⟨rfl, below_trans HBL.out hq33⟩
  · have EQ7 := hid hq7
    clear hq7
    go_wp2_with fail
    have hc35 := implIsStatic t4a _ _ _ (HA4a.out.below h05) (by have := HC4a.out; omega)
    rw [EQ7.out] at hc35
    refine hc35.mono ?_
    rintro e z36 ⟨rfl, hz36⟩
    have hq36 := below_trans h05 hz36
    replace xa4a := cell_keep xa4a hz36
    replace xb4a := cell_keep xb4a hz36
    clear hc35 hz36
    rcases Bool.eq_false_or_eq_true (vld t4a) with hq40 | hq40
    · have EQ40 := hid hq40
      clear hq40
      go_wp2_with fail
      have hc42 := specIsStatic t4a _ _ _ (HA4a.out.below hq36) (by have := HC4a.out; omega)
      rw [EQ7.out] at hc42
      refine hc42.mono ?_
      rintro e z43 ⟨rfl, hz43⟩
      have hq43 := below_trans hq36 hz43
      replace xa4a := cell_keep xa4a hz43
      replace xb4a := cell_keep xb4a hz43
      clear hc42 hz43
      go_wp2_with fail
      have hc44 := implTypeValid_any t4a _ _ _ (HA4a.out.below hq43)
      rw [EQ40.out] at hc44
      refine hc44.mono ?_
      rintro e z45 ⟨rfl, hz45⟩
      have hq45 := below_trans hq43 hz45
      replace xa4a := cell_keep xa4a hz45
      replace xb4a := cell_keep xb4a hz45
      clear hc44 hz45
      have XF46 := sta_not t4a EQ7.out EQ40.out
      go_wp2_with fail
      have hc47 := implCountAny t4a _ _ _ (HA4a.out.below hq45) (by have := HC4a.out; omega)
      refine hc47.mono ?_
      rintro e z48 ⟨rfl, hz48⟩
      have hq48 := below_trans hq45 hz48
      replace xa4a := cell_keep xa4a hz48
      replace xb4a := cell_keep xb4a hz48
      clear hc47 hz48
      go_wp2_with fail
      refine (drawChain_any a01 n01 cap01 _ (HBY1.out.below (below_trans HBL.out hq48)) HNN1.out HMM1.out).mono ?_
      rintro e z50 ⟨t50a, t50b, t50c, v50a, v50b, v50c, f50a, f50b, f50c, rfl, ht50a, ht50b, ht50c, ⟨hs50, hg50a, hg50b, hs50b⟩, hz50⟩
      obtain ⟨k50a, n50a, a50a, c50a, rfl⟩ := ht50a.agg
      obtain ⟨k50b, n50b, a50b, c50b, rfl⟩ := ht50b.agg
      obtain ⟨k50c, n50c, a50c, c50c, rfl⟩ := ht50c.agg
      have hba51 : Below z50.heap.size z50 (((z50.alloc (Obj.cells #[.int .i64 k50a, .slice a50a n50a c50a] 25)).alloc (Obj.cells #[.int .i64 k50b, .slice a50b n50b c50b] 25)).alloc (Obj.cells #[.int .i64 k50c, .slice a50c n50c c50c] 25)) := ((((Below.refl _ _).alloc (Nat.le_refl _) _).alloc (by simp) _).alloc (by simp; omega) _)
      have hbb51 := below_trans hz50 hba51
      have hbc51 := below_trans hq48 hbb51
      replace HA4a := hid (HA4a.out.below hbc51)
      replace HR4a := hid (fun x hx => (HR4a.out x hx).below hbc51)
      replace HBL := hid (below_trans HBL.out hbc51)
      replace xa4a := cell_keep xa4a hbb51
      replace xb4a := cell_keep xb4a hbb51
      have HA50a := hid (ht50a.below hba51)
      have HR50a := hid (show ∀ x ∈ f50a, Raw (((z50.alloc (Obj.cells #[.int .i64 k50a, .slice a50a n50a c50a] 25)).alloc (Obj.cells #[.int .i64 k50b, .slice a50b n50b c50b] 25)).alloc (Obj.cells #[.int .i64 k50c, .slice a50c n50c c50c] 25)) x from fun x hx => Raw.below ⟨ht50a.laid x hx, hg50a x hx⟩ hba51)
      have HC50a := hid (show (t50a).cnt ≤ 100 from hs50)
      have HA50b := hid (ht50b.below hba51)
      have HR50b := hid (show ∀ x ∈ f50b, Raw (((z50.alloc (Obj.cells #[.int .i64 k50a, .slice a50a n50a c50a] 25)).alloc (Obj.cells #[.int .i64 k50b, .slice a50b n50b c50b] 25)).alloc (Obj.cells #[.int .i64 k50c, .slice a50c n50c c50c] 25)) x from fun x hx => Raw.below ⟨ht50b.laid x hx, hg50b x hx⟩ hba51)
      have HC50b := hid (show (t50b).cnt ≤ 100 from hs50b)
      have HA50c := hid (ht50c.below hba51)
      have hl51 := lay3 z50 (Obj.cells #[.int .i64 k50a, .slice a50a n50a c50a] 25) (Obj.cells #[.int .i64 k50b, .slice a50b n50b c50b] 25) (Obj.cells #[.int .i64 k50c, .slice a50c n50c c50c] 25)
      have xa50a : ((((z50.alloc (Obj.cells #[.int .i64 k50a, .slice a50a n50a c50a] 25)).alloc (Obj.cells #[.int .i64 k50b, .slice a50b n50b c50b] 25)).alloc (Obj.cells #[.int .i64 k50c, .slice a50c n50c c50c] 25))).cell? ⟨z50.heap.size, 0, none⟩ = some (.int .i64 k50a) := by rw [cell_of_block hl51.1]; rfl
      have xb50a : ((((z50.alloc (Obj.cells #[.int .i64 k50a, .slice a50a n50a c50a] 25)).alloc (Obj.cells #[.int .i64 k50b, .slice a50b n50b c50b] 25)).alloc (Obj.cells #[.int .i64 k50c, .slice a50c n50c c50c] 25))).cell? ⟨z50.heap.size, 1, none⟩ = some (.slice a50a n50a c50a) := by rw [cell_of_block hl51.1]; rfl
      have xa50b : ((((z50.alloc (Obj.cells #[.int .i64 k50a, .slice a50a n50a c50a] 25)).alloc (Obj.cells #[.int .i64 k50b, .slice a50b n50b c50b] 25)).alloc (Obj.cells #[.int .i64 k50c, .slice a50c n50c c50c] 25))).cell? ⟨z50.heap.size + 1, 0, none⟩ = some (.int .i64 k50b) := by rw [cell_of_block hl51.2.1]; rfl
      have xb50b : ((((z50.alloc (Obj.cells #[.int .i64 k50a, .slice a50a n50a c50a] 25)).alloc (Obj.cells #[.int .i64 k50b, .slice a50b n50b c50b] 25)).alloc (Obj.cells #[.int .i64 k50c, .slice a50c n50c c50c] 25))).cell? ⟨z50.heap.size + 1, 1, none⟩ = some (.slice a50b n50b c50b) := by rw [cell_of_block hl51.2.1]; rfl
      have xa50c : ((((z50.alloc (Obj.cells #[.int .i64 k50a, .slice a50a n50a c50a] 25)).alloc (Obj.cells #[.int .i64 k50b, .slice a50b n50b c50b] 25)).alloc (Obj.cells #[.int .i64 k50c, .slice a50c n50c c50c] 25))).cell? ⟨z50.heap.size + 1 + 1, 0, none⟩ = some (.int .i64 k50c) := by rw [cell_of_block hl51.2.2]; rfl
      have xb50c : ((((z50.alloc (Obj.cells #[.int .i64 k50a, .slice a50a n50a c50a] 25)).alloc (Obj.cells #[.int .i64 k50b, .slice a50b n50b c50b] 25)).alloc (Obj.cells #[.int .i64 k50c, .slice a50c n50c c50c] 25))).cell? ⟨z50.heap.size + 1 + 1, 1, none⟩ = some (.slice a50c n50c c50c) := by rw [cell_of_block hl51.2.2]; rfl
      have h051 := Below.refl ((((z50.alloc (Obj.cells #[.int .i64 k50a, .slice a50a n50a c50a] 25)).alloc (Obj.cells #[.int .i64 k50b, .slice a50b n50b c50b] 25)).alloc (Obj.cells #[.int .i64 k50c, .slice a50c n50c c50c] 25))).heap.size (((z50.alloc (Obj.cells #[.int .i64 k50a, .slice a50a n50a c50a] 25)).alloc (Obj.cells #[.int .i64 k50b, .slice a50b n50b c50b] 25)).alloc (Obj.cells #[.int .i64 k50c, .slice a50c n50c c50c] 25))
      clear ht50a
      clear ht50b
      clear ht50c
      clear hba51 hbb51 hbc51 hl51 hz50
      go_wp2_with fail
      go_ret
      exact ⟨rfl, below_trans HBL.out h051⟩
    · have EQ40 := hid hq40
      clear hq40
      go_wp2_with fail
      have hc54 := specIsStatic t4a _ _ _ (HA4a.out.below hq36) (by have := HC4a.out; omega)
      rw [EQ7.out] at hc54
      refine hc54.mono ?_
      rintro e z55 ⟨rfl, hz55⟩
      have hq55 := below_trans hq36 hz55
      replace xa4a := cell_keep xa4a hz55
      replace xb4a := cell_keep xb4a hz55
      clear hc54 hz55
      go_wp2_with fail
      have hc56 := implTypeValid_any t4a _ _ _ (HA4a.out.below hq55)
      rw [EQ40.out] at hc56
      refine hc56.mono ?_
      rintro e z57 ⟨rfl, hz57⟩
      have hq57 := below_trans hq55 hz57
      replace xa4a := cell_keep xa4a hz57
      replace xb4a := cell_keep xb4a hz57
      clear hc56 hz57
      go_wp2_with fail
      refine (drawChain_any a01 n01 cap01 _ (HBY1.out.below (below_trans HBL.out hq57)) HNN1.out HMM1.out).mono ?_
      rintro e z59 ⟨t59a, t59b, t59c, v59a, v59b, v59c, f59a, f59b, f59c, rfl, ht59a, ht59b, ht59c, ⟨hs59, hg59a, hg59b, hs59b⟩, hz59⟩
      obtain ⟨k59a, n59a, a59a, c59a, rfl⟩ := ht59a.agg
      obtain ⟨k59b, n59b, a59b, c59b, rfl⟩ := ht59b.agg
      obtain ⟨k59c, n59c, a59c, c59c, rfl⟩ := ht59c.agg
      have hba60 : Below z59.heap.size z59 (((z59.alloc (Obj.cells #[.int .i64 k59a, .slice a59a n59a c59a] 25)).alloc (Obj.cells #[.int .i64 k59b, .slice a59b n59b c59b] 25)).alloc (Obj.cells #[.int .i64 k59c, .slice a59c n59c c59c] 25)) := ((((Below.refl _ _).alloc (Nat.le_refl _) _).alloc (by simp) _).alloc (by simp; omega) _)
      have hbb60 := below_trans hz59 hba60
      have hbc60 := below_trans hq57 hbb60
      replace HA4a := hid (HA4a.out.below hbc60)
      replace HR4a := hid (fun x hx => (HR4a.out x hx).below hbc60)
      replace HBL := hid (below_trans HBL.out hbc60)
      replace xa4a := cell_keep xa4a hbb60
      replace xb4a := cell_keep xb4a hbb60
      have HA59a := hid (ht59a.below hba60)
      have HR59a := hid (show ∀ x ∈ f59a, Raw (((z59.alloc (Obj.cells #[.int .i64 k59a, .slice a59a n59a c59a] 25)).alloc (Obj.cells #[.int .i64 k59b, .slice a59b n59b c59b] 25)).alloc (Obj.cells #[.int .i64 k59c, .slice a59c n59c c59c] 25)) x from fun x hx => Raw.below ⟨ht59a.laid x hx, hg59a x hx⟩ hba60)
      have HC59a := hid (show (t59a).cnt ≤ 100 from hs59)
      have HA59b := hid (ht59b.below hba60)
      have HR59b := hid (show ∀ x ∈ f59b, Raw (((z59.alloc (Obj.cells #[.int .i64 k59a, .slice a59a n59a c59a] 25)).alloc (Obj.cells #[.int .i64 k59b, .slice a59b n59b c59b] 25)).alloc (Obj.cells #[.int .i64 k59c, .slice a59c n59c c59c] 25)) x from fun x hx => Raw.below ⟨ht59b.laid x hx, hg59b x hx⟩ hba60)
      have HC59b := hid (show (t59b).cnt ≤ 100 from hs59b)
      have HA59c := hid (ht59c.below hba60)
      have hl60 := lay3 z59 (Obj.cells #[.int .i64 k59a, .slice a59a n59a c59a] 25) (Obj.cells #[.int .i64 k59b, .slice a59b n59b c59b] 25) (Obj.cells #[.int .i64 k59c, .slice a59c n59c c59c] 25)
      have xa59a : ((((z59.alloc (Obj.cells #[.int .i64 k59a, .slice a59a n59a c59a] 25)).alloc (Obj.cells #[.int .i64 k59b, .slice a59b n59b c59b] 25)).alloc (Obj.cells #[.int .i64 k59c, .slice a59c n59c c59c] 25))).cell? ⟨z59.heap.size, 0, none⟩ = some (.int .i64 k59a) := by rw [cell_of_block hl60.1]; rfl
      have xb59a : ((((z59.alloc (Obj.cells #[.int .i64 k59a, .slice a59a n59a c59a] 25)).alloc (Obj.cells #[.int .i64 k59b, .slice a59b n59b c59b] 25)).alloc (Obj.cells #[.int .i64 k59c, .slice a59c n59c c59c] 25))).cell? ⟨z59.heap.size, 1, none⟩ = some (.slice a59a n59a c59a) := by rw [cell_of_block hl60.1]; rfl
      have xa59b : ((((z59.alloc (Obj.cells #[.int .i64 k59a, .slice a59a n59a c59a] 25)).alloc (Obj.cells #[.int .i64 k59b, .slice a59b n59b c59b] 25)).alloc (Obj.cells #[.int .i64 k59c, .slice a59c n59c c59c] 25))).cell? ⟨z59.heap.size + 1, 0, none⟩ = some (.int .i64 k59b) := by rw [cell_of_block hl60.2.1]; rfl
      have xb59b : ((((z59.alloc (Obj.cells #[.int .i64 k59a, .slice a59a n59a c59a] 25)).alloc (Obj.cells #[.int .i64 k59b, .slice a59b n59b c59b] 25)).alloc (Obj.cells #[.int .i64 k59c, .slice a59c n59c c59c] 25))).cell? ⟨z59.heap.size + 1, 1, none⟩ = some (.slice a59b n59b c59b) := by rw [cell_of_block hl60.2.1]; rfl
      have xa59c : ((((z59.alloc (Obj.cells #[.int .i64 k59a, .slice a59a n59a c59a] 25)).alloc (Obj.cells #[.int .i64 k59b, .slice a59b n59b c59b] 25)).alloc (Obj.cells #[.int .i64 k59c, .slice a59c n59c c59c] 25))).cell? ⟨z59.heap.size + 1 + 1, 0, none⟩ = some (.int .i64 k59c) := by rw [cell_of_block hl60.2.2]; rfl
      have xb59c : ((((z59.alloc (Obj.cells #[.int .i64 k59a, .slice a59a n59a c59a] 25)).alloc (Obj.cells #[.int .i64 k59b, .slice a59b n59b c59b] 25)).alloc (Obj.cells #[.int .i64 k59c, .slice a59c n59c c59c] 25))).cell? ⟨z59.heap.size + 1 + 1, 1, none⟩ = some (.slice a59c n59c c59c) := by rw [cell_of_block hl60.2.2]; rfl
      have h060 := Below.refl ((((z59.alloc (Obj.cells #[.int .i64 k59a, .slice a59a n59a c59a] 25)).alloc (Obj.cells #[.int .i64 k59b, .slice a59b n59b c59b] 25)).alloc (Obj.cells #[.int .i64 k59c, .slice a59c n59c c59c] 25))).heap.size (((z59.alloc (Obj.cells #[.int .i64 k59a, .slice a59a n59a c59a] 25)).alloc (Obj.cells #[.int .i64 k59b, .slice a59b n59b c59b] 25)).alloc (Obj.cells #[.int .i64 k59c, .slice a59c n59c c59c] 25))
      clear ht59a
      clear ht59b
      clear ht59c
      clear hba60 hbb60 hbc60 hl60 hz59
      go_wp2_with fail
      go_ret
      exact ⟨rfl, below_trans HBL.out h060⟩
end Go.Proofs.Ytelbpgdlcnnabaa
