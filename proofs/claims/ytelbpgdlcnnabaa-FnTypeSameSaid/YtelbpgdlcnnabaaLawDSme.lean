/- The law FnTypeSame: it returns true and writes nothing that was there. -/
import Derived.Test.YtelbpgdlcnnabaaDrT
import Derived.Test.YtelbpgdlcnnabaaTxP
import Derived.Test.YtelbpgdlcnnabaaReg
import Derived.Test.YtelbpgdlcnnabaaRaw
import Derived.Test.YtelbpgdlcnnabaaTsm
import Derived.Test.YtelbpgdlcnnabaaTsS
import Derived.Test.YtelbpgdlcnnabaaTxtI
import Derived.Deep.RegionHeld3
namespace Go.Proofs.Ytelbpgdlcnnabaa
open Go.RowKit

/-- Boxes that have just been laid. -/
theorem lay1 (w : World) (o1 : Obj) : (w.alloc o1).heap[w.heap.size]? = some o1 := alloc_new _ _
theorem lay2 (w : World) (o1 o2 : Obj) : ((w.alloc o1).alloc o2).heap[w.heap.size]? = some o1 ∧ ((w.alloc o1).alloc o2).heap[w.heap.size + 1]? = some o2 := by
  have h2 := alloc_new (w.alloc o1) o2
  have hs : (w.alloc o1).heap.size = w.heap.size + 1 := by simp
  rw [hs] at h2
  exact ⟨(Below.heap_alloc _ _ _ (by simp)).trans (alloc_new _ _), h2⟩
theorem lay3 (w : World) (o1 o2 o3 : Obj) : (((w.alloc o1).alloc o2).alloc o3).heap[w.heap.size]? = some o1 ∧ (((w.alloc o1).alloc o2).alloc o3).heap[w.heap.size + 1]? = some o2 ∧ (((w.alloc o1).alloc o2).alloc o3).heap[w.heap.size + 1 + 1]? = some o3 := by
  obtain ⟨a, b⟩ := lay2 w o1 o2
  have h3 := alloc_new ((w.alloc o1).alloc o2) o3
  have hs : ((w.alloc o1).alloc o2).heap.size = w.heap.size + 1 + 1 := by simp
  rw [hs] at h3
  exact ⟨(Below.heap_alloc _ _ _ (by simp; omega)).trans a, (Below.heap_alloc _ _ _ (by simp)).trans b, h3⟩


set_option linter.unusedSimpArgs false in
set_option linter.unusedVariables false in
set_option maxRecDepth 100000 in
set_option maxHeartbeats 16000000 in
theorem lawDSme (a00 : Option Addr) (n00 cap00 : Nat) (w : World) (hB0 : BytA w a00 n00) (hn0 : n00 ≤ cap00) (hm0 : cap00 ≤ maxLen) :
    Calls Try.prog 9 #[.slice a00 n00 cap00] w fun e w' => e = .returned (.bool true) ∧ Below w.heap.size w w' := by
  by_cases hl0 : (n00 : Int) > 1048576
  · clear hB0
    go_enter Try.func9, Try.ntmps9
    go_wp2_with fail
    go_ret
    exact ⟨rfl, Below.refl _ _⟩
  have HBY0 := hid hB0
  have HNN0 := hid hn0
  have HMM0 := hid hm0
  clear hB0 hn0 hm0
  go_enter Try.func9, Try.ntmps9
  go_wp2_with fail
  refine (drawTySame_any a00 n00 cap00 _ (HBY0.out.below (Below.refl _ _)) HNN0.out HMM0.out).mono ?_
  rintro e z4 ⟨t4a, t4b, v4a, v4b, f4a, f4b, rfl, hs4, ht4a, ht4b, hg4a, hg4b, hz4⟩
  obtain ⟨k4a, n4a, a4a, c4a, rfl⟩ := ht4a.agg
  obtain ⟨k4b, n4b, a4b, c4b, rfl⟩ := ht4b.agg
  have hba5 : Below z4.heap.size z4 ((z4.alloc (Obj.cells #[.int .i64 k4a, .slice a4a n4a c4a] 25)).alloc (Obj.cells #[.int .i64 k4b, .slice a4b n4b c4b] 25)) := (((Below.refl _ _).alloc (Nat.le_refl _) _).alloc (by simp) _)
  have hbb5 := below_trans hz4 hba5
  have hbc5 := hbb5
  have HBL := hid hbc5
  have hl5 := lay2 z4 (Obj.cells #[.int .i64 k4a, .slice a4a n4a c4a] 25) (Obj.cells #[.int .i64 k4b, .slice a4b n4b c4b] 25)
  have HA4a := hid (ht4a.below hba5)
  have HR4a := hid (show ∀ x ∈ f4a, Raw ((z4.alloc (Obj.cells #[.int .i64 k4a, .slice a4a n4a c4a] 25)).alloc (Obj.cells #[.int .i64 k4b, .slice a4b n4b c4b] 25)) x from fun x hx => Raw.below ⟨ht4a.laid x hx, (hg4a x hx).2⟩ hba5)
  have HC4a := hid (show ((t4a) : Ty).cnt ≤ 100 from hs4.1)
  have HA4b := hid (ht4b.below hba5)
  have HR4b := hid (show ∀ x ∈ f4b, Raw ((z4.alloc (Obj.cells #[.int .i64 k4a, .slice a4a n4a c4a] 25)).alloc (Obj.cells #[.int .i64 k4b, .slice a4b n4b c4b] 25)) x from fun x hx => Raw.below ⟨ht4b.laid x hx, (hg4b x hx).2⟩ hba5)
  have HC4b := hid (show ((t4b) : Ty).cnt ≤ 100 from hs4.2)
  have xa1_ : (((z4.alloc (Obj.cells #[.int .i64 k4a, .slice a4a n4a c4a] 25)).alloc (Obj.cells #[.int .i64 k4b, .slice a4b n4b c4b] 25))).cell? ⟨z4.heap.size, 0, none⟩ = some (.int .i64 k4a) := by rw [cell_of_block (hl5.1)]; rfl
  have xb1_ : (((z4.alloc (Obj.cells #[.int .i64 k4a, .slice a4a n4a c4a] 25)).alloc (Obj.cells #[.int .i64 k4b, .slice a4b n4b c4b] 25))).cell? ⟨z4.heap.size, 1, none⟩ = some (.slice a4a n4a c4a) := by rw [cell_of_block (hl5.1)]; rfl
  have xa2_ : (((z4.alloc (Obj.cells #[.int .i64 k4a, .slice a4a n4a c4a] 25)).alloc (Obj.cells #[.int .i64 k4b, .slice a4b n4b c4b] 25))).cell? ⟨z4.heap.size + 1, 0, none⟩ = some (.int .i64 k4b) := by rw [cell_of_block (hl5.2)]; rfl
  have xb2_ : (((z4.alloc (Obj.cells #[.int .i64 k4a, .slice a4a n4a c4a] 25)).alloc (Obj.cells #[.int .i64 k4b, .slice a4b n4b c4b] 25))).cell? ⟨z4.heap.size + 1, 1, none⟩ = some (.slice a4b n4b c4b) := by rw [cell_of_block (hl5.2)]; rfl
  have h05 := Below.refl (((z4.alloc (Obj.cells #[.int .i64 k4a, .slice a4a n4a c4a] 25)).alloc (Obj.cells #[.int .i64 k4b, .slice a4b n4b c4b] 25))).heap.size ((z4.alloc (Obj.cells #[.int .i64 k4a, .slice a4a n4a c4a] 25)).alloc (Obj.cells #[.int .i64 k4b, .slice a4b n4b c4b] 25))
  clear ht4a
  clear ht4b
  clear hba5 hbb5 hbc5 hl5 hz4
  rcases Bool.eq_false_or_eq_true (tyEq t4a t4b) with hq7 | hq7
  · have EQ7 := hid hq7
    clear hq7
    go_wp2_with fail
    have hc9 := implTypeSame t4a t4b _ _ _ _ _ (by have := HC4a.out; omega) (HA4a.out.below h05) (HA4b.out.below h05) (fun x hx => (HR4a.out x hx).below h05) (fun x hx => (HR4b.out x hx).below h05)
    rw [EQ7.out] at hc9
    refine hc9.mono ?_
    rintro e z10 ⟨rfl, hz10⟩
    have hq10 := below_trans h05 hz10
    replace xa1_ := cell_keep xa1_ hz10
    replace xb1_ := cell_keep xb1_ hz10
    replace xa2_ := cell_keep xa2_ hz10
    replace xb2_ := cell_keep xb2_ hz10
    clear hc9 hz10
    go_wp2_with fail
    have hc12 := specTypeSame t4a t4b _ _ _ _ _ (HA4a.out.below hq10) (HA4b.out.below hq10)
    rw [EQ7.out] at hc12
    refine hc12.mono ?_
    rintro e z13 ⟨rfl, hz13⟩
    have hq13 := below_trans hq10 hz13
    replace xa1_ := cell_keep xa1_ hz13
    replace xb1_ := cell_keep xb1_ hz13
    replace xa2_ := cell_keep xa2_ hz13
    replace xb2_ := cell_keep xb2_ hz13
    clear hc12 hz13
    have EQ14 := hid (show tyEq t4b t4a = true from (by rw [tyEq_comm]; exact EQ7.out))
    go_wp2_with fail
    have hc15 := implTypeSame t4b t4a _ _ _ _ _ (by have := HC4b.out; omega) (HA4b.out.below hq13) (HA4a.out.below hq13) (fun x hx => (HR4b.out x hx).below hq13) (fun x hx => (HR4a.out x hx).below hq13)
    rw [EQ14.out] at hc15
    refine hc15.mono ?_
    rintro e z16 ⟨rfl, hz16⟩
    have hq16 := below_trans hq13 hz16
    replace xa1_ := cell_keep xa1_ hz16
    replace xb1_ := cell_keep xb1_ hz16
    replace xa2_ := cell_keep xa2_ hz16
    replace xb2_ := cell_keep xb2_ hz16
    clear hc15 hz16
    have EQ17 := hid (show tyEq t4a t4a = true from tyEq_refl t4a)
    go_wp2_with fail
    have hc18 := implTypeSame t4a t4a _ _ _ _ _ (by have := HC4a.out; omega) (HA4a.out.below hq16) (HA4a.out.below hq16) (fun x hx => (HR4a.out x hx).below hq16) (fun x hx => (HR4a.out x hx).below hq16)
    rw [EQ17.out] at hc18
    refine hc18.mono ?_
    rintro e z19 ⟨rfl, hz19⟩
    have hq19 := below_trans hq16 hz19
    replace xa1_ := cell_keep xa1_ hz19
    replace xb1_ := cell_keep xb1_ hz19
    replace xa2_ := cell_keep xa2_ hz19
    replace xb2_ := cell_keep xb2_ hz19
    clear hc18 hz19
    go_wp2_with fail
    have hc21 := implFormatType t4a _ _ _ (HA4a.out.below hq19)
    generalize hs21 : (⟨(fmtT t4a).toArray⟩ : ByteArray) = s21 at hc21
    have HSG21 := hid hs21
    clear hs21
    refine hc21.mono ?_
    rintro e z21 ⟨rfl, hz21⟩
    have hq21 := below_trans hq19 hz21
    replace xa1_ := cell_keep xa1_ hz21
    replace xb1_ := cell_keep xb1_ hz21
    replace xa2_ := cell_keep xa2_ hz21
    replace xb2_ := cell_keep xb2_ hz21
    clear hc21 hz21
    go_wp2_with fail
    have hc23 := implFormatType t4b _ _ _ (HA4b.out.below hq21)
    generalize hs23 : (⟨(fmtT t4b).toArray⟩ : ByteArray) = s23 at hc23
    have HSG23 := hid hs23
    clear hs23
    refine hc23.mono ?_
    rintro e z23 ⟨rfl, hz23⟩
    have hq23 := below_trans hq21 hz23
    replace xa1_ := cell_keep xa1_ hz23
    replace xb1_ := cell_keep xb1_ hz23
    replace xa2_ := cell_keep xa2_ hz23
    replace xb2_ := cell_keep xb2_ hz23
    clear hc23 hz23
    rcases Bool.eq_false_or_eq_true (vld t4a) with hq25 | hq25
    · have EQ25 := hid hq25
      clear hq25
      rcases Bool.eq_false_or_eq_true (vld t4b) with hq27 | hq27
      · have EQ27 := hid hq27
        clear hq27
        have XE21 : ¬ s21.toList = [] := by rw [← HSG21.out]; exact fmt_ne t4a EQ25.out
        have XF21 : (s21.toList == []) = false := by rw [beq_eq_false_iff_ne]; exact XE21
        have XG21 : s21.toList.isEmpty = false := by cases hh : s21.toList with | nil => exact absurd hh XE21 | cons _ _ => rfl
        have XE23 : ¬ s23.toList = [] := by rw [← HSG23.out]; exact fmt_ne t4b EQ27.out
        have XF23 : (s23.toList == []) = false := by rw [beq_eq_false_iff_ne]; exact XE23
        have XG23 : s23.toList.isEmpty = false := by cases hh : s23.toList with | nil => exact absurd hh XE23 | cons _ _ => rfl
        have XH21 : (s21.toList == s23.toList) = true := by rw [← HSG21.out, ← HSG23.out, fmt_eq t4a t4b EQ25.out EQ27.out]; exact EQ7.out
        go_wp2_with fail
        go_ret
        exact ⟨rfl, below_trans HBL.out hq23⟩
      · have EQ27 := hid hq27
        clear hq27
        have XE21 : ¬ s21.toList = [] := by rw [← HSG21.out]; exact fmt_ne t4a EQ25.out
        have XF21 : (s21.toList == []) = false := by rw [beq_eq_false_iff_ne]; exact XE21
        have XG21 : s21.toList.isEmpty = false := by cases hh : s21.toList with | nil => exact absurd hh XE21 | cons _ _ => rfl
        have XE23 : s23.toList = [] := by rw [← HSG23.out]; exact fmt_nil t4b EQ27.out
        go_wp2_with fail
        go_ret
        exact ⟨rfl, below_trans HBL.out hq23⟩
    · have EQ25 := hid hq25
      clear hq25
      have XE21 : s21.toList = [] := by rw [← HSG21.out]; exact fmt_nil t4a EQ25.out
      go_wp2_with fail
      go_ret
      exact ⟨rfl, below_trans HBL.out hq23⟩
  · have EQ7 := hid hq7
    clear hq7
    go_wp2_with fail
    have hc32 := implTypeSame t4a t4b _ _ _ _ _ (by have := HC4a.out; omega) (HA4a.out.below h05) (HA4b.out.below h05) (fun x hx => (HR4a.out x hx).below h05) (fun x hx => (HR4b.out x hx).below h05)
    rw [EQ7.out] at hc32
    refine hc32.mono ?_
    rintro e z33 ⟨rfl, hz33⟩
    have hq33 := below_trans h05 hz33
    replace xa1_ := cell_keep xa1_ hz33
    replace xb1_ := cell_keep xb1_ hz33
    replace xa2_ := cell_keep xa2_ hz33
    replace xb2_ := cell_keep xb2_ hz33
    clear hc32 hz33
    go_wp2_with fail
    have hc35 := specTypeSame t4a t4b _ _ _ _ _ (HA4a.out.below hq33) (HA4b.out.below hq33)
    rw [EQ7.out] at hc35
    refine hc35.mono ?_
    rintro e z36 ⟨rfl, hz36⟩
    have hq36 := below_trans hq33 hz36
    replace xa1_ := cell_keep xa1_ hz36
    replace xb1_ := cell_keep xb1_ hz36
    replace xa2_ := cell_keep xa2_ hz36
    replace xb2_ := cell_keep xb2_ hz36
    clear hc35 hz36
    have EQ37 := hid (show tyEq t4b t4a = false from (by rw [tyEq_comm]; exact EQ7.out))
    go_wp2_with fail
    have hc38 := implTypeSame t4b t4a _ _ _ _ _ (by have := HC4b.out; omega) (HA4b.out.below hq36) (HA4a.out.below hq36) (fun x hx => (HR4b.out x hx).below hq36) (fun x hx => (HR4a.out x hx).below hq36)
    rw [EQ37.out] at hc38
    refine hc38.mono ?_
    rintro e z39 ⟨rfl, hz39⟩
    have hq39 := below_trans hq36 hz39
    replace xa1_ := cell_keep xa1_ hz39
    replace xb1_ := cell_keep xb1_ hz39
    replace xa2_ := cell_keep xa2_ hz39
    replace xb2_ := cell_keep xb2_ hz39
    clear hc38 hz39
    have EQ40 := hid (show tyEq t4a t4a = true from tyEq_refl t4a)
    go_wp2_with fail
    have hc41 := implTypeSame t4a t4a _ _ _ _ _ (by have := HC4a.out; omega) (HA4a.out.below hq39) (HA4a.out.below hq39) (fun x hx => (HR4a.out x hx).below hq39) (fun x hx => (HR4a.out x hx).below hq39)
    rw [EQ40.out] at hc41
    refine hc41.mono ?_
    rintro e z42 ⟨rfl, hz42⟩
    have hq42 := below_trans hq39 hz42
    replace xa1_ := cell_keep xa1_ hz42
    replace xb1_ := cell_keep xb1_ hz42
    replace xa2_ := cell_keep xa2_ hz42
    replace xb2_ := cell_keep xb2_ hz42
    clear hc41 hz42
    go_wp2_with fail
    have hc44 := implFormatType t4a _ _ _ (HA4a.out.below hq42)
    generalize hs44 : (⟨(fmtT t4a).toArray⟩ : ByteArray) = s44 at hc44
    have HSG44 := hid hs44
    clear hs44
    refine hc44.mono ?_
    rintro e z44 ⟨rfl, hz44⟩
    have hq44 := below_trans hq42 hz44
    replace xa1_ := cell_keep xa1_ hz44
    replace xb1_ := cell_keep xb1_ hz44
    replace xa2_ := cell_keep xa2_ hz44
    replace xb2_ := cell_keep xb2_ hz44
    clear hc44 hz44
    go_wp2_with fail
    have hc46 := implFormatType t4b _ _ _ (HA4b.out.below hq44)
    generalize hs46 : (⟨(fmtT t4b).toArray⟩ : ByteArray) = s46 at hc46
    have HSG46 := hid hs46
    clear hs46
    refine hc46.mono ?_
    rintro e z46 ⟨rfl, hz46⟩
    have hq46 := below_trans hq44 hz46
    replace xa1_ := cell_keep xa1_ hz46
    replace xb1_ := cell_keep xb1_ hz46
    replace xa2_ := cell_keep xa2_ hz46
    replace xb2_ := cell_keep xb2_ hz46
    clear hc46 hz46
    rcases Bool.eq_false_or_eq_true (vld t4a) with hq48 | hq48
    · have EQ48 := hid hq48
      clear hq48
      rcases Bool.eq_false_or_eq_true (vld t4b) with hq50 | hq50
      · have EQ50 := hid hq50
        clear hq50
        have XE44 : ¬ s44.toList = [] := by rw [← HSG44.out]; exact fmt_ne t4a EQ48.out
        have XF44 : (s44.toList == []) = false := by rw [beq_eq_false_iff_ne]; exact XE44
        have XG44 : s44.toList.isEmpty = false := by cases hh : s44.toList with | nil => exact absurd hh XE44 | cons _ _ => rfl
        have XE46 : ¬ s46.toList = [] := by rw [← HSG46.out]; exact fmt_ne t4b EQ50.out
        have XF46 : (s46.toList == []) = false := by rw [beq_eq_false_iff_ne]; exact XE46
        have XG46 : s46.toList.isEmpty = false := by cases hh : s46.toList with | nil => exact absurd hh XE46 | cons _ _ => rfl
        have XH44 : (s44.toList == s46.toList) = false := by rw [← HSG44.out, ← HSG46.out, fmt_eq t4a t4b EQ48.out EQ50.out]; exact EQ7.out
        go_wp2_with fail
        go_ret
        exact ⟨rfl, below_trans HBL.out hq46⟩
      · have EQ50 := hid hq50
        clear hq50
        have XE44 : ¬ s44.toList = [] := by rw [← HSG44.out]; exact fmt_ne t4a EQ48.out
        have XF44 : (s44.toList == []) = false := by rw [beq_eq_false_iff_ne]; exact XE44
        have XG44 : s44.toList.isEmpty = false := by cases hh : s44.toList with | nil => exact absurd hh XE44 | cons _ _ => rfl
        have XE46 : s46.toList = [] := by rw [← HSG46.out]; exact fmt_nil t4b EQ50.out
        go_wp2_with fail
        go_ret
        exact ⟨rfl, below_trans HBL.out hq46⟩
    · have EQ48 := hid hq48
      clear hq48
      have XE44 : s44.toList = [] := by rw [← HSG44.out]; exact fmt_nil t4a EQ48.out
      go_wp2_with fail
      go_ret
      exact ⟨rfl, below_trans HBL.out hq46⟩
end Go.Proofs.Ytelbpgdlcnnabaa
