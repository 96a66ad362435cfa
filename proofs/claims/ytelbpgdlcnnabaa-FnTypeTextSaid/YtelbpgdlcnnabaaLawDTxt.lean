/- The law FnTypeText: it returns true and writes nothing that was there. -/
import Derived.Test.YtelbpgdlcnnabaaDrC
import Derived.Test.YtelbpgdlcnnabaaPrA
import Derived.Test.YtelbpgdlcnnabaaPsQ
import Derived.Test.YtelbpgdlcnnabaaReg
import Derived.Test.YtelbpgdlcnnabaaRaw
import Derived.Test.YtelbpgdlcnnabaaTsm
import Derived.Test.YtelbpgdlcnnabaaTxtI
import Derived.Deep.RegionHeld3
namespace Go.Proofs.Ytelbpgdlcnnabaa
open Go.RowKit

/-- Boxes that have just been laid. -/
theorem lay1 (w : World) (o1 : Obj) : (w.alloc o1).heap[w.heap.size]? = some o1 := alloc_new _ _
theorem lay2 (w : World) (o1 o2 : Obj) : ((w.alloc o1).alloc o2).heap[w.heap.size]? = some o1 ∧ ((w.alloc o1).alloc o2).heap[w.heap.size + 1]? = some o2 := by
  have h2 := alloc_new (w.alloc o1) o2
  have hs : (w.alloc o1).heap.size = w.heap.size + 1 := by simp
  rw [hs] at h2
  exact ⟨(Below.heap_alloc _ _ _ (by simp)).trans (alloc_new _ _), h2⟩
theorem lay3 (w : World) (o1 o2 o3 : Obj) : (((w.alloc o1).alloc o2).alloc o3).heap[w.heap.size]? = some o1 ∧ (((w.alloc o1).alloc o2).alloc o3).heap[w.heap.size + 1]? = some o2 ∧ (((w.alloc o1).alloc o2).alloc o3).heap[w.heap.size + 1 + 1]? = some o3 := by
  obtain ⟨a, b⟩ := lay2 w o1 o2
  have h3 := alloc_new ((w.alloc o1).alloc o2) o3
  have hs : ((w.alloc o1).alloc o2).heap.size = w.heap.size + 1 + 1 := by simp
  rw [hs] at h3
  exact ⟨(Below.heap_alloc _ _ _ (by simp; omega)).trans a, (Below.heap_alloc _ _ _ (by simp)).trans b, h3⟩


set_option linter.unusedSimpArgs false in
set_option linter.unusedVariables false in
set_option maxRecDepth 100000 in
set_option maxHeartbeats 16000000 in
theorem lawDTxt (a00 : Option Addr) (n00 cap00 : Nat) (a01 : Option Addr) (n01 cap01 : Nat) (w : World) (hB0 : BytA w a00 n00) (hn0 : n00 ≤ cap00) (hm0 : cap00 ≤ maxLen) (hB1 : BytA w a01 n01) (hn1 : n01 ≤ cap01) (hm1 : cap01 ≤ maxLen) :
    Calls Try.prog 10 #[.slice a00 n00 cap00, .slice a01 n01 cap01] w fun e w' => e = .returned (.bool true) ∧ Below w.heap.size w w' := by
  by_cases hl0 : (n00 : Int) > 1048576
  · clear hB0 hB1
    go_enter Try.func10, Try.ntmps10
    go_wp2_with fail
    go_ret
    exact ⟨rfl, Below.refl _ _⟩
  by_cases hl1 : (n01 : Int) > 1048576
  · clear hB0 hB1
    go_enter Try.func10, Try.ntmps10
    go_wp2_with fail
    go_ret
    exact ⟨rfl, Below.refl _ _⟩
  have HBY0 := hid hB0
  have HNN0 := hid hn0
  have HMM0 := hid hm0
  have HBY1 := hid hB1
  have HNN1 := hid hn1
  have HMM1 := hid hm1
  clear hB0 hn0 hm0 hB1 hn1 hm1
  go_enter Try.func10, Try.ntmps10
  go_wp2_with fail
  refine (drawFormat_any a00 n00 cap00 _ (HBY0.out.below (Below.refl _ _)) HNN0.out HMM0.out).mono ?_
  rintro e z4 ⟨t4a, v4a, f4a, rfl, hs4, ht4a, hg4a, hz4⟩
  obtain ⟨k4a, n4a, a4a, c4a, rfl⟩ := ht4a.agg
  have hba5 : Below z4.heap.size z4 (z4.alloc (Obj.cells #[.int .i64 k4a, .slice a4a n4a c4a] 25)) := ((Below.refl _ _).alloc (Nat.le_refl _) _)
  have hbb5 := below_trans hz4 hba5
  have hbc5 := hbb5
  have HBL := hid hbc5
  have hl5 := lay1 z4 (Obj.cells #[.int .i64 k4a, .slice a4a n4a c4a] 25)
  have HA4a := hid (ht4a.below hba5)
  have HR4a := hid (show ∀ x ∈ f4a, Raw (z4.alloc (Obj.cells #[.int .i64 k4a, .slice a4a n4a c4a] 25)) x from fun x hx => Raw.below ⟨ht4a.laid x hx, (hg4a x hx).2⟩ hba5)
  have HC4a := hid (show ((t4a) : Ty).cnt ≤ 100 from hs4)
  have xa1_ : ((z4.alloc (Obj.cells #[.int .i64 k4a, .slice a4a n4a c4a] 25))).cell? ⟨z4.heap.size, 0, none⟩ = some (.int .i64 k4a) := by rw [cell_of_block (hl5)]; rfl
  have xb1_ : ((z4.alloc (Obj.cells #[.int .i64 k4a, .slice a4a n4a c4a] 25))).cell? ⟨z4.heap.size, 1, none⟩ = some (.slice a4a n4a c4a) := by rw [cell_of_block (hl5)]; rfl
  have h05 := Below.refl ((z4.alloc (Obj.cells #[.int .i64 k4a, .slice a4a n4a c4a] 25))).heap.size (z4.alloc (Obj.cells #[.int .i64 k4a, .slice a4a n4a c4a] 25))
  clear ht4a
  clear hba5 hbb5 hbc5 hl5 hz4
  go_wp2_with fail
  have hc7 := implFormatType t4a _ _ _ (HA4a.out.below h05)
  generalize hs7 : (⟨(fmtT t4a).toArray⟩ : ByteArray) = s7 at hc7
  have HSG7 := hid hs7
  have HSS7 := hid (show s7.size ≤ 1048576 by rw [← hs7]; exact fmt_size _)
  clear hs7
  refine hc7.mono ?_
  rintro e z7 ⟨rfl, hz7⟩
  have hq7 := below_trans h05 hz7
  replace xa1_ := cell_keep xa1_ hz7
  replace xb1_ := cell_keep xb1_ hz7
  clear hc7 hz7
  rcases Bool.eq_false_or_eq_true (vld t4a) with hq9 | hq9
  · have EQ9 := hid hq9
    clear hq9
    have EQ11 := hid (show prsOk s7 = true from by rw [← HSG7.out, prsOk_fmt]; exact EQ9.out)
    have EQ12 := hid (show tyEq (prsT s7) t4a = true from by rw [← HSG7.out, prsT_fmt _ EQ9.out]; exact tyEq_refl _)
    go_wp2_with fail
    have hc13 := implParseType s7 z7 HSS7.out
    rw [EQ11.out] at hc13
    refine hc13.mono ?_
    rintro e z13 ⟨k13, n13, a13, c13, f13, rfl, ht13, hf13, hz13⟩
    clear hc13
    have hba14 : Below z13.heap.size z13 (z13.alloc (Obj.cells #[.int .i64 k13, .slice a13 n13 c13] 25)) := ((Below.refl _ _).alloc (Nat.le_refl _) _)
    have hbb14 := below_trans hz13 hba14
    have hbc14 := below_trans hq7 hbb14
    replace HA4a := hid (HA4a.out.below hbc14)
    replace HR4a := hid (fun x hx => (HR4a.out x hx).below hbc14)
    replace HBL := hid (below_trans HBL.out hbc14)
    replace xa1_ := cell_keep xa1_ hbb14
    replace xb1_ := cell_keep xb1_ hbb14
    have hl14 := lay1 z13 (Obj.cells #[.int .i64 k13, .slice a13 n13 c13] 25)
    have HA13 := hid (ht13.below hba14)
    have HR13 := hid (show ∀ x ∈ f13, Raw (z13.alloc (Obj.cells #[.int .i64 k13, .slice a13 n13 c13] 25)) x from fun x hx => Raw.below (Fresh.raw ht13 hf13 x hx) hba14)
    have HC13 := hid (show ((prsT s7) : Ty).cnt ≤ 1048576 from prsT_cnt s7)
    have xa2_ : ((z13.alloc (Obj.cells #[.int .i64 k13, .slice a13 n13 c13] 25))).cell? ⟨z13.heap.size, 0, none⟩ = some (.int .i64 k13) := by rw [cell_of_block (hl14)]; rfl
    have xb2_ : ((z13.alloc (Obj.cells #[.int .i64 k13, .slice a13 n13 c13] 25))).cell? ⟨z13.heap.size, 1, none⟩ = some (.slice a13 n13 c13) := by rw [cell_of_block (hl14)]; rfl
    have h014 := Below.refl ((z13.alloc (Obj.cells #[.int .i64 k13, .slice a13 n13 c13] 25))).heap.size (z13.alloc (Obj.cells #[.int .i64 k13, .slice a13 n13 c13] 25))
    clear ht13
    clear hba14 hbb14 hbc14 hl14 hz13
    have XH17 : (s7.toList == s7.toList) = true := beq_self_eq_true _
    go_wp2_with fail
    refine wp_region_held_drew (S := (fun w' => Below ((z13.alloc (Obj.cells #[.int .i64 k13, .slice a13 n13 c13] 25))).heap.size ((z13.alloc (Obj.cells #[.int .i64 k13, .slice a13 n13 c13] 25))) w' ∧ w'.cell? ⟨z4.heap.size, 0, none⟩ = some (.int .i64 k4a) ∧ w'.cell? ⟨z4.heap.size, 1, none⟩ = some (.slice a4a n4a c4a) ∧ w'.cell? ⟨z13.heap.size, 0, none⟩ = some (.int .i64 k13) ∧ w'.cell? ⟨z13.heap.size, 1, none⟩ = some (.slice a13 n13 c13))) (by kernel_rfl) ?_ (fun hS0 => ?_)
    · (refine (fun hB => ⟨hB, cell_keep xa1_ hB, cell_keep xb1_ hB, cell_keep xa2_ hB, cell_keep xb2_ hB⟩ : Below ((z13.alloc (Obj.cells #[.int .i64 k13, .slice a13 n13 c13] 25))).heap.size ((z13.alloc (Obj.cells #[.int .i64 k13, .slice a13 n13 c13] 25))) _ → _) ?_; exact below_drew _)
    refine regTake (i := 0) (v := ?vg15_0) rfl (by kernel_rfl) (by kernel_rfl) (by kernel_rfl) (fun _ _ _ h => h) (Or.inl ⟨by rfl, ?hyg15_0⟩) (by assumption) ?_
    case hyg15_0 => (intro w hSw; (try dsimp only at hSw); go_simp; (try with_reducible rfl))
    try simp only [Act.put, List.setIfInBounds_toArray, List.set_cons_zero, List.set_cons_succ]
    refine regTake (i := 1) (v := ?vg15_1) rfl (by kernel_rfl) (by kernel_rfl) (by kernel_rfl) (fun _ _ _ h => h) (Or.inl ⟨by rfl, ?hyg15_1⟩) (by assumption) ?_
    case hyg15_1 => (intro w hSw; (try dsimp only at hSw); go_simp; (try with_reducible rfl))
    try simp only [Act.put, List.setIfInBounds_toArray, List.set_cons_zero, List.set_cons_succ]
    refine wpAnyH_ready (rs := [2]) (by kernel_rfl) (by simp) ?_
    refine regCons rfl (fun K hK => ?_)
    go_simp
    have hc16 := specFormatType t4a _ _ _ (HA4a.out.below (below_trans h014 (below_drew ((z13.alloc (Obj.cells #[.int .i64 k13, .slice a13 n13 c13] 25))))))
    rw [HSG7.out] at hc16
    refine hc16.mono ?_
    rintro e yg15_0 ⟨rfl, hyg15_0⟩
    have hkg15_0 := below_trans (below_drew ((z13.alloc (Obj.cells #[.int .i64 k13, .slice a13 n13 c13] 25)))) hyg15_0
    clear hc16
    refine hK.out _ _ ?_ (fun hS1 => ?_)
    · (refine (fun hB => ⟨hB, cell_keep xa1_ hB, cell_keep xb1_ hB, cell_keep xa2_ hB, cell_keep xb2_ hB⟩ : Below ((z13.alloc (Obj.cells #[.int .i64 k13, .slice a13 n13 c13] 25))).heap.size ((z13.alloc (Obj.cells #[.int .i64 k13, .slice a13 n13 c13] 25))) _ → _) ?_; exact hkg15_0)
    clear hK K hS0
    try simp only [Act.put, List.setIfInBounds_toArray, List.set_cons_zero, List.set_cons_succ]
    refine regTake (i := 3) (v := ?vg15_3) rfl (by kernel_rfl) (by kernel_rfl) (by kernel_rfl) (fun _ _ _ h => h) (Or.inl ⟨by rfl, ?hyg15_3⟩) (by assumption) ?_
    case hyg15_3 => (intro w hSw; (try dsimp only at hSw); go_simp; (try with_reducible rfl))
    try simp only [Act.put, List.setIfInBounds_toArray, List.set_cons_zero, List.set_cons_succ]
    refine regTake (i := 4) (v := ?vg15_4) rfl (by kernel_rfl) (by kernel_rfl) (by kernel_rfl) (fun _ _ _ h => h) (Or.inl ⟨by rfl, ?hyg15_4⟩) (by assumption) ?_
    case hyg15_4 => (intro w hSw; (try dsimp only at hSw); go_simp; (try with_reducible rfl))
    try simp only [Act.put, List.setIfInBounds_toArray, List.set_cons_zero, List.set_cons_succ]
    refine regTake (i := 5) (v := ?vg15_5) rfl (by kernel_rfl) (by kernel_rfl) (by kernel_rfl) (fun _ _ _ h => h) (Or.inl ⟨by rfl, ?hyg15_5⟩) (by assumption) ?_
    case hyg15_5 => (intro w hSw; (try dsimp only at hSw); go_simp; (try with_reducible rfl))
    try simp only [Act.put, List.setIfInBounds_toArray, List.set_cons_zero, List.set_cons_succ]
    refine regTake (i := 7) (v := ?vg15_7) rfl (by kernel_rfl) (by kernel_rfl) (by kernel_rfl) (fun _ _ _ h => h) (Or.inl ⟨by rfl, ?hyg15_7⟩) (by assumption) ?_
    case hyg15_7 => (intro w hSw; (try dsimp only at hSw); go_simp; (try with_reducible rfl))
    try simp only [Act.put, List.setIfInBounds_toArray, List.set_cons_zero, List.set_cons_succ]
    refine wpAnyH_ready (rs := [6]) (by kernel_rfl) (by simp) ?_
    refine regCons rfl (fun K hK => ?_)
    go_simp
    have hc18 := implTypeValid_any t4a _ _ _ (HA4a.out.below (below_trans h014 (hkg15_0)))
    rw [EQ9.out] at hc18
    refine hc18.mono ?_
    rintro e yg15_1 ⟨rfl, hyg15_1⟩
    have hkg15_1 := below_trans (hkg15_0) hyg15_1
    clear hc18
    refine hK.out _ _ ?_ (fun hS2 => ?_)
    · (refine (fun hB => ⟨hB, cell_keep xa1_ hB, cell_keep xb1_ hB, cell_keep xa2_ hB, cell_keep xb2_ hB⟩ : Below ((z13.alloc (Obj.cells #[.int .i64 k13, .slice a13 n13 c13] 25))).heap.size ((z13.alloc (Obj.cells #[.int .i64 k13, .slice a13 n13 c13] 25))) _ → _) ?_; exact hkg15_1)
    clear hK K hS1
    try simp only [Act.put, List.setIfInBounds_toArray, List.set_cons_zero, List.set_cons_succ]
    refine wpAnyH_ready (rs := [8]) (by kernel_rfl) (by simp) ?_
    refine regCons rfl (fun K hK => ?_)
    go_simp
    have hc20 := specTypeValid_any t4a _ _ _ (HA4a.out.below (below_trans h014 (hkg15_1)))
    rw [EQ9.out] at hc20
    refine hc20.mono ?_
    rintro e yg15_2 ⟨rfl, hyg15_2⟩
    have hkg15_2 := below_trans (hkg15_1) hyg15_2
    clear hc20
    refine hK.out _ _ ?_ (fun hS3 => ?_)
    · (refine (fun hB => ⟨hB, cell_keep xa1_ hB, cell_keep xb1_ hB, cell_keep xa2_ hB, cell_keep xb2_ hB⟩ : Below ((z13.alloc (Obj.cells #[.int .i64 k13, .slice a13 n13 c13] 25))).heap.size ((z13.alloc (Obj.cells #[.int .i64 k13, .slice a13 n13 c13] 25))) _ → _) ?_; exact hkg15_2)
    clear hK K hS2
    try simp only [Act.put, List.setIfInBounds_toArray, List.set_cons_zero, List.set_cons_succ]
    refine regTake (i := 9) (v := ?vg15_9) rfl (by kernel_rfl) (by kernel_rfl) (by kernel_rfl) (fun _ _ _ h => h) (Or.inl ⟨by rfl, ?hyg15_9⟩) (by assumption) ?_
    case hyg15_9 => (intro w hSw; (try dsimp only at hSw); go_simp; (try with_reducible rfl))
    try simp only [Act.put, List.setIfInBounds_toArray, List.set_cons_zero, List.set_cons_succ]
    refine regTake (i := 10) (v := .bool false) rfl (by kernel_rfl) (by kernel_rfl) (by kernel_rfl) (fun _ _ _ h => h) (Or.inl ⟨by rfl, ?hyg15_10⟩) (by assumption) ?_
    case hyg15_10 => (intro w hSw; (try dsimp only at hSw); go_simp; (try with_reducible rfl))
    try simp only [Act.put, List.setIfInBounds_toArray, List.set_cons_zero, List.set_cons_succ]
    refine regTake (i := 11) (v := ?vg15_11) rfl (by kernel_rfl) (by kernel_rfl) (by kernel_rfl) (fun _ _ _ h => h) (Or.inl ⟨by rfl, ?hyg15_11⟩) (by assumption) ?_
    case hyg15_11 => (intro w hSw; (try dsimp only at hSw); go_simp; (try with_reducible rfl))
    try simp only [Act.put, List.setIfInBounds_toArray, List.set_cons_zero, List.set_cons_succ]
    refine regTake (i := 12) (v := ?vg15_12) rfl (by kernel_rfl) (by kernel_rfl) (by kernel_rfl) (fun _ _ _ h => h) (Or.inl ⟨by rfl, ?hyg15_12⟩) (by assumption) ?_
    case hyg15_12 => (intro w hSw; (try dsimp only at hSw); go_simp; (try with_reducible rfl))
    try simp only [Act.put, List.setIfInBounds_toArray, List.set_cons_zero, List.set_cons_succ]
    refine regTake (i := 13) (v := ?vg15_13) rfl (by kernel_rfl) (by kernel_rfl) (by kernel_rfl) (fun _ _ _ h => h) (Or.inl ⟨by rfl, ?hyg15_13⟩) (by assumption) ?_
    case hyg15_13 => (intro w hSw; (try dsimp only at hSw); go_simp; (try with_reducible rfl))
    try simp only [Act.put, List.setIfInBounds_toArray, List.set_cons_zero, List.set_cons_succ]
    refine wpAnyH_ready (rs := [14]) (by kernel_rfl) (by simp) ?_
    refine regCons rfl (fun K hK => ?_)
    go_simp
    have hc22 := specTypeValid_any t4a _ _ _ (HA4a.out.below (below_trans h014 (hkg15_2)))
    rw [EQ9.out] at hc22
    refine hc22.mono ?_
    rintro e yg15_3 ⟨rfl, hyg15_3⟩
    have hkg15_3 := below_trans (hkg15_2) hyg15_3
    clear hc22
    refine hK.out _ _ ?_ (fun hS4 => ?_)
    · (refine (fun hB => ⟨hB, cell_keep xa1_ hB, cell_keep xb1_ hB, cell_keep xa2_ hB, cell_keep xb2_ hB⟩ : Below ((z13.alloc (Obj.cells #[.int .i64 k13, .slice a13 n13 c13] 25))).heap.size ((z13.alloc (Obj.cells #[.int .i64 k13, .slice a13 n13 c13] 25))) _ → _) ?_; exact hkg15_3)
    clear hK K hS3
    try simp only [Act.put, List.setIfInBounds_toArray, List.set_cons_zero, List.set_cons_succ]
    refine regTake (i := 15) (v := ?vg15_15) rfl (by kernel_rfl) (by kernel_rfl) (by kernel_rfl) (fun _ _ _ h => h) (Or.inl ⟨by rfl, ?hyg15_15⟩) (by assumption) ?_
    case hyg15_15 => (intro w hSw; (try dsimp only at hSw); go_simp; (try with_reducible rfl))
    try simp only [Act.put, List.setIfInBounds_toArray, List.set_cons_zero, List.set_cons_succ]
    refine regTake (i := 16) (v := .bool false) rfl (by kernel_rfl) (by kernel_rfl) (by kernel_rfl) (fun _ _ _ h => h) (Or.inl ⟨by rfl, ?hyg15_16⟩) (by assumption) ?_
    case hyg15_16 => (intro w hSw; (try dsimp only at hSw); go_simp; (try with_reducible rfl))
    try simp only [Act.put, List.setIfInBounds_toArray, List.set_cons_zero, List.set_cons_succ]
    refine regTake (i := 17) (v := ?vg15_17) rfl (by kernel_rfl) (by kernel_rfl) (by kernel_rfl) (fun _ _ _ h => h) (Or.inl ⟨by rfl, ?hyg15_17⟩) (by assumption) ?_
    case hyg15_17 => (intro w hSw; (try dsimp only at hSw); go_simp; (try with_reducible rfl))
    try simp only [Act.put, List.setIfInBounds_toArray, List.set_cons_zero, List.set_cons_succ]
    refine regTake (i := 18) (v := ?vg15_18) rfl (by kernel_rfl) (by kernel_rfl) (by kernel_rfl) (fun _ _ _ h => h) (Or.inl ⟨by rfl, ?hyg15_18⟩) (by assumption) ?_
    case hyg15_18 => (intro w hSw; (try dsimp only at hSw); go_simp; (try with_reducible rfl))
    try simp only [Act.put, List.setIfInBounds_toArray, List.set_cons_zero, List.set_cons_succ]
    refine regTake (i := 19) (v := ?vg15_19) rfl (by kernel_rfl) (by kernel_rfl) (by kernel_rfl) (fun _ _ _ h => h) (Or.inl ⟨by rfl, ?hyg15_19⟩) (by assumption) ?_
    case hyg15_19 => (intro w hSw; (try dsimp only at hSw); go_simp; (try with_reducible rfl))
    try simp only [Act.put, List.setIfInBounds_toArray, List.set_cons_zero, List.set_cons_succ]
    refine regTake (i := 20) (v := ?vg15_20) rfl (by kernel_rfl) (by kernel_rfl) (by kernel_rfl) (fun _ _ _ h => h) (Or.inl ⟨by rfl, ?hyg15_20⟩) (by assumption) ?_
    case hyg15_20 => (intro w hSw; (try dsimp only at hSw); go_simp; (try with_reducible rfl))
    try simp only [Act.put, List.setIfInBounds_toArray, List.set_cons_zero, List.set_cons_succ]
    refine regTake (i := 21) (v := ?vg15_21) rfl (by kernel_rfl) (by kernel_rfl) (by kernel_rfl) (fun _ _ _ h => h) (Or.inl ⟨by rfl, ?hyg15_21⟩) (by assumption) ?_
    case hyg15_21 => (intro w hSw; (try dsimp only at hSw); go_simp; (try with_reducible rfl))
    try simp only [Act.put, List.setIfInBounds_toArray, List.set_cons_zero, List.set_cons_succ]
    refine wpAnyH_ready (rs := [22]) (by kernel_rfl) (by simp) ?_
    refine regCons rfl (fun K hK => ?_)
    go_simp
    have hc24 := implTypeSame (prsT s7) t4a _ _ _ _ _ (by have := HC13.out; omega) (HA13.out.below (below_trans h014 (hkg15_3))) (HA4a.out.below (below_trans h014 (hkg15_3))) (fun x hx => (HR13.out x hx).below (below_trans h014 (hkg15_3))) (fun x hx => (HR4a.out x hx).below (below_trans h014 (hkg15_3)))
    rw [EQ12.out] at hc24
    refine hc24.mono ?_
    rintro e yg15_4 ⟨rfl, hyg15_4⟩
    have hkg15_4 := below_trans (hkg15_3) hyg15_4
    clear hc24
    refine hK.out _ _ ?_ (fun hS5 => ?_)
    · (refine (fun hB => ⟨hB, cell_keep xa1_ hB, cell_keep xb1_ hB, cell_keep xa2_ hB, cell_keep xb2_ hB⟩ : Below ((z13.alloc (Obj.cells #[.int .i64 k13, .slice a13 n13 c13] 25))).heap.size ((z13.alloc (Obj.cells #[.int .i64 k13, .slice a13 n13 c13] 25))) _ → _) ?_; exact hkg15_4)
    clear hK K hS4
    try simp only [Act.put, List.setIfInBounds_toArray, List.set_cons_zero, List.set_cons_succ]
    refine regTake (i := 23) (v := ?vg15_23) rfl (by kernel_rfl) (by kernel_rfl) (by kernel_rfl) (fun _ _ _ h => h) (Or.inl ⟨by rfl, ?hyg15_23⟩) (by assumption) ?_
    case hyg15_23 => (intro w hSw; (try dsimp only at hSw); go_simp; (try with_reducible rfl))
    try simp only [Act.put, List.setIfInBounds_toArray, List.set_cons_zero, List.set_cons_succ]
    refine regTake (i := 24) (v := .bool false) rfl (by kernel_rfl) (by kernel_rfl) (by kernel_rfl) (fun _ _ _ h => h) (Or.inl ⟨by rfl, ?hyg15_24⟩) (by assumption) ?_
    case hyg15_24 => (intro w hSw; (try dsimp only at hSw); go_simp; (try with_reducible rfl))
    try simp only [Act.put, List.setIfInBounds_toArray, List.set_cons_zero, List.set_cons_succ]
    refine regTake (i := 25) (v := .bool false) rfl (by kernel_rfl) (by kernel_rfl) (by kernel_rfl) (fun _ _ _ h => h) (Or.inl ⟨by rfl, ?hyg15_25⟩) (by assumption) ?_
    case hyg15_25 => (intro w hSw; (try dsimp only at hSw); go_simp; (try with_reducible rfl))
    try simp only [Act.put, List.setIfInBounds_toArray, List.set_cons_zero, List.set_cons_succ]
    refine wpAnyH_done (by kernel_rfl) ?_ _
    have hlg15_ := below_trans h014 hkg15_4
    replace xa1_ := cell_keep xa1_ hkg15_4
    replace xb1_ := cell_keep xb1_ hkg15_4
    replace xa2_ := cell_keep xa2_ hkg15_4
    replace xb2_ := cell_keep xb2_ hkg15_4
    go_wp2_with fail
    refine (drawParse_any a01 n01 cap01 _ (HBY1.out.below (below_trans HBL.out hlg15_)) HNN1.out HMM1.out).mono ?_
    rintro e z27 ⟨s27, rfl, hs27, hz27⟩
    have hq27 := below_trans hlg15_ hz27
    have HSS27 := hid (show s27.size ≤ 1048576 by omega)
    replace xa1_ := cell_keep xa1_ hz27
    replace xb1_ := cell_keep xb1_ hz27
    replace xa2_ := cell_keep xa2_ hz27
    replace xb2_ := cell_keep xb2_ hz27
    clear hz27 hs27
    rcases Bool.eq_false_or_eq_true (prsOk s27) with hq29 | hq29
    · have EQ29 := hid hq29
      clear hq29
      go_wp2_with fail
      have hc31 := implParseType s27 z27 HSS27.out
      rw [EQ29.out] at hc31
      refine hc31.mono ?_
      rintro e z31 ⟨k31, n31, a31, c31, f31, rfl, ht31, hf31, hz31⟩
      clear hc31
      have hba32 : Below z31.heap.size z31 (z31.alloc (Obj.cells #[.int .i64 k31, .slice a31 n31 c31] 25)) := ((Below.refl _ _).alloc (Nat.le_refl _) _)
      have hbb32 := below_trans hz31 hba32
      have hbc32 := below_trans hq27 hbb32
      replace HA4a := hid (HA4a.out.below hbc32)
      replace HR4a := hid (fun x hx => (HR4a.out x hx).below hbc32)
      replace HA13 := hid (HA13.out.below hbc32)
      replace HR13 := hid (fun x hx => (HR13.out x hx).below hbc32)
      replace HBL := hid (below_trans HBL.out hbc32)
      replace xa1_ := cell_keep xa1_ hbb32
      replace xb1_ := cell_keep xb1_ hbb32
      replace xa2_ := cell_keep xa2_ hbb32
      replace xb2_ := cell_keep xb2_ hbb32
      have hl32 := lay1 z31 (Obj.cells #[.int .i64 k31, .slice a31 n31 c31] 25)
      have HA31 := hid (ht31.below hba32)
      have HR31 := hid (show ∀ x ∈ f31, Raw (z31.alloc (Obj.cells #[.int .i64 k31, .slice a31 n31 c31] 25)) x from fun x hx => Raw.below (Fresh.raw ht31 hf31 x hx) hba32)
      have HC31 := hid (show ((prsT s27) : Ty).cnt ≤ 1048576 from prsT_cnt s27)
      have xa3_ : ((z31.alloc (Obj.cells #[.int .i64 k31, .slice a31 n31 c31] 25))).cell? ⟨z31.heap.size, 0, none⟩ = some (.int .i64 k31) := by rw [cell_of_block (hl32)]; rfl
      have xb3_ : ((z31.alloc (Obj.cells #[.int .i64 k31, .slice a31 n31 c31] 25))).cell? ⟨z31.heap.size, 1, none⟩ = some (.slice a31 n31 c31) := by rw [cell_of_block (hl32)]; rfl
      have h032 := Below.refl ((z31.alloc (Obj.cells #[.int .i64 k31, .slice a31 n31 c31] 25))).heap.size (z31.alloc (Obj.cells #[.int .i64 k31, .slice a31 n31 c31] 25))
      clear ht31
      clear hba32 hbb32 hbc32 hl32 hz31
      go_wp2_with fail
      have hc34 := specParseType s27 ((z31.alloc (Obj.cells #[.int .i64 k31, .slice a31 n31 c31] 25))) HSS27.out
      rw [EQ29.out] at hc34
      refine hc34.mono ?_
      rintro e z34 ⟨k34, n34, a34, c34, f34, rfl, ht34, hf34, hz34⟩
      clear hc34
      have hba35 : Below z34.heap.size z34 (z34.alloc (Obj.cells #[.int .i64 k34, .slice a34 n34 c34] 25)) := ((Below.refl _ _).alloc (Nat.le_refl _) _)
      have hbb35 := below_trans hz34 hba35
      have hbc35 := below_trans h032 hbb35
      replace HA4a := hid (HA4a.out.below hbc35)
      replace HR4a := hid (fun x hx => (HR4a.out x hx).below hbc35)
      replace HA13 := hid (HA13.out.below hbc35)
      replace HR13 := hid (fun x hx => (HR13.out x hx).below hbc35)
      replace HA31 := hid (HA31.out.below hbc35)
      replace HR31 := hid (fun x hx => (HR31.out x hx).below hbc35)
      replace HBL := hid (below_trans HBL.out hbc35)
      replace xa1_ := cell_keep xa1_ hbb35
      replace xb1_ := cell_keep xb1_ hbb35
      replace xa2_ := cell_keep xa2_ hbb35
      replace xb2_ := cell_keep xb2_ hbb35
      replace xa3_ := cell_keep xa3_ hbb35
      replace xb3_ := cell_keep xb3_ hbb35
      have hl35 := lay1 z34 (Obj.cells #[.int .i64 k34, .slice a34 n34 c34] 25)
      have HA34 := hid (ht34.below hba35)
      have HR34 := hid (show ∀ x ∈ f34, Raw (z34.alloc (Obj.cells #[.int .i64 k34, .slice a34 n34 c34] 25)) x from fun x hx => Raw.below (Fresh.raw ht34 hf34 x hx) hba35)
      have HC34 := hid (show ((prsT s27) : Ty).cnt ≤ 1048576 from prsT_cnt s27)
      have xa4_ : ((z34.alloc (Obj.cells #[.int .i64 k34, .slice a34 n34 c34] 25))).cell? ⟨z34.heap.size, 0, none⟩ = some (.int .i64 k34) := by rw [cell_of_block (hl35)]; rfl
      have xb4_ : ((z34.alloc (Obj.cells #[.int .i64 k34, .slice a34 n34 c34] 25))).cell? ⟨z34.heap.size, 1, none⟩ = some (.slice a34 n34 c34) := by rw [cell_of_block (hl35)]; rfl
      have h035 := Below.refl ((z34.alloc (Obj.cells #[.int .i64 k34, .slice a34 n34 c34] 25))).heap.size (z34.alloc (Obj.cells #[.int .i64 k34, .slice a34 n34 c34] 25))
      clear ht34
      clear hba35 hbb35 hbc35 hl35 hz34
      have EQ37 := hid (show tyEq (prsT s27) (prsT s27) = true from tyEq_refl (prsT s27))
      go_wp2_with fail
      have hc38 := implTypeSame (prsT s27) (prsT s27) _ _ _ _ _ (by have := HC31.out; omega) (HA31.out.below h035) (HA34.out.below h035) (fun x hx => (HR31.out x hx).below h035) (fun x hx => (HR34.out x hx).below h035)
      rw [EQ37.out] at hc38
      refine hc38.mono ?_
      rintro e z39 ⟨rfl, hz39⟩
      have hq39 := below_trans h035 hz39
      replace xa1_ := cell_keep xa1_ hz39
      replace xb1_ := cell_keep xb1_ hz39
      replace xa2_ := cell_keep xa2_ hz39
      replace xb2_ := cell_keep xb2_ hz39
      replace xa3_ := cell_keep xa3_ hz39
      replace xb3_ := cell_keep xb3_ hz39
      replace xa4_ := cell_keep xa4_ hz39
      replace xb4_ := cell_keep xb4_ hz39
      clear hc38 hz39
      go_wp2_with fail
      have hc40 := implFormatType (prsT s27) _ _ _ (HA31.out.below hq39)
      generalize hs40 : (⟨(fmtT (prsT s27)).toArray⟩ : ByteArray) = s40 at hc40
      have HSG40 := hid hs40
      have HSS40 := hid (show s40.size ≤ 1048576 by rw [← hs40]; exact fmt_size _)
      clear hs40
      refine hc40.mono ?_
      rintro e z40 ⟨rfl, hz40⟩
      have hq40 := below_trans hq39 hz40
      replace xa1_ := cell_keep xa1_ hz40
      replace xb1_ := cell_keep xb1_ hz40
      replace xa2_ := cell_keep xa2_ hz40
      replace xb2_ := cell_keep xb2_ hz40
      replace xa3_ := cell_keep xa3_ hz40
      replace xb3_ := cell_keep xb3_ hz40
      replace xa4_ := cell_keep xa4_ hz40
      replace xb4_ := cell_keep xb4_ hz40
      clear hc40 hz40
      have XH41 : (s40.toList == s27.toList) = true := by rw [← HSG40.out]; exact fmt_prs s27 EQ29.out
      go_wp2_with fail
      go_ret
      exact ⟨rfl, below_trans HBL.out hq40⟩
    · have EQ29 := hid hq29
      clear hq29
      go_wp2_with fail
      have hc43 := implParseType s27 z27 HSS27.out
      rw [EQ29.out] at hc43
      refine hc43.mono ?_
      rintro e z43 ⟨k43, n43, a43, c43, f43, rfl, ht43, hf43, hz43⟩
      clear hc43
      have hba44 : Below z43.heap.size z43 (z43.alloc (Obj.cells #[.int .i64 k43, .slice a43 n43 c43] 25)) := ((Below.refl _ _).alloc (Nat.le_refl _) _)
      have hbb44 := below_trans hz43 hba44
      have hbc44 := below_trans hq27 hbb44
      replace HA4a := hid (HA4a.out.below hbc44)
      replace HR4a := hid (fun x hx => (HR4a.out x hx).below hbc44)
      replace HA13 := hid (HA13.out.below hbc44)
      replace HR13 := hid (fun x hx => (HR13.out x hx).below hbc44)
      replace HBL := hid (below_trans HBL.out hbc44)
      replace xa1_ := cell_keep xa1_ hbb44
      replace xb1_ := cell_keep xb1_ hbb44
      replace xa2_ := cell_keep xa2_ hbb44
      replace xb2_ := cell_keep xb2_ hbb44
      have hl44 := lay1 z43 (Obj.cells #[.int .i64 k43, .slice a43 n43 c43] 25)
      have HA43 := hid (ht43.below hba44)
      have HR43 := hid (show ∀ x ∈ f43, Raw (z43.alloc (Obj.cells #[.int .i64 k43, .slice a43 n43 c43] 25)) x from fun x hx => Raw.below (Fresh.raw ht43 hf43 x hx) hba44)
      have HC43 := hid (show ((prsT s27) : Ty).cnt ≤ 1048576 from prsT_cnt s27)
      have xa5_ : ((z43.alloc (Obj.cells #[.int .i64 k43, .slice a43 n43 c43] 25))).cell? ⟨z43.heap.size, 0, none⟩ = some (.int .i64 k43) := by rw [cell_of_block (hl44)]; rfl
      have xb5_ : ((z43.alloc (Obj.cells #[.int .i64 k43, .slice a43 n43 c43] 25))).cell? ⟨z43.heap.size, 1, none⟩ = some (.slice a43 n43 c43) := by rw [cell_of_block (hl44)]; rfl
      have h044 := Below.refl ((z43.alloc (Obj.cells #[.int .i64 k43, .slice a43 n43 c43] 25))).heap.size (z43.alloc (Obj.cells #[.int .i64 k43, .slice a43 n43 c43] 25))
      clear ht43
      clear hba44 hbb44 hbc44 hl44 hz43
      go_wp2_with fail
      have hc46 := specParseType s27 ((z43.alloc (Obj.cells #[.int .i64 k43, .slice a43 n43 c43] 25))) HSS27.out
      rw [EQ29.out] at hc46
      refine hc46.mono ?_
      rintro e z46 ⟨k46, n46, a46, c46, f46, rfl, ht46, hf46, hz46⟩
      clear hc46
      have hba47 : Below z46.heap.size z46 (z46.alloc (Obj.cells #[.int .i64 k46, .slice a46 n46 c46] 25)) := ((Below.refl _ _).alloc (Nat.le_refl _) _)
      have hbb47 := below_trans hz46 hba47
      have hbc47 := below_trans h044 hbb47
      replace HA4a := hid (HA4a.out.below hbc47)
      replace HR4a := hid (fun x hx => (HR4a.out x hx).below hbc47)
      replace HA13 := hid (HA13.out.below hbc47)
      replace HR13 := hid (fun x hx => (HR13.out x hx).below hbc47)
      replace HA43 := hid (HA43.out.below hbc47)
      replace HR43 := hid (fun x hx => (HR43.out x hx).below hbc47)
      replace HBL := hid (below_trans HBL.out hbc47)
      replace xa1_ := cell_keep xa1_ hbb47
      replace xb1_ := cell_keep xb1_ hbb47
      replace xa2_ := cell_keep xa2_ hbb47
      replace xb2_ := cell_keep xb2_ hbb47
      replace xa5_ := cell_keep xa5_ hbb47
      replace xb5_ := cell_keep xb5_ hbb47
      have hl47 := lay1 z46 (Obj.cells #[.int .i64 k46, .slice a46 n46 c46] 25)
      have HA46 := hid (ht46.below hba47)
      have HR46 := hid (show ∀ x ∈ f46, Raw (z46.alloc (Obj.cells #[.int .i64 k46, .slice a46 n46 c46] 25)) x from fun x hx => Raw.below (Fresh.raw ht46 hf46 x hx) hba47)
      have HC46 := hid (show ((prsT s27) : Ty).cnt ≤ 1048576 from prsT_cnt s27)
      have xa6_ : ((z46.alloc (Obj.cells #[.int .i64 k46, .slice a46 n46 c46] 25))).cell? ⟨z46.heap.size, 0, none⟩ = some (.int .i64 k46) := by rw [cell_of_block (hl47)]; rfl
      have xb6_ : ((z46.alloc (Obj.cells #[.int .i64 k46, .slice a46 n46 c46] 25))).cell? ⟨z46.heap.size, 1, none⟩ = some (.slice a46 n46 c46) := by rw [cell_of_block (hl47)]; rfl
      have h047 := Below.refl ((z46.alloc (Obj.cells #[.int .i64 k46, .slice a46 n46 c46] 25))).heap.size (z46.alloc (Obj.cells #[.int .i64 k46, .slice a46 n46 c46] 25))
      clear ht46
      clear hba47 hbb47 hbc47 hl47 hz46
      have EQ49 := hid (show tyEq (prsT s27) (prsT s27) = true from tyEq_refl (prsT s27))
      go_wp2_with fail
      have hc50 := implTypeSame (prsT s27) (prsT s27) _ _ _ _ _ (by have := HC43.out; omega) (HA43.out.below h047) (HA46.out.below h047) (fun x hx => (HR43.out x hx).below h047) (fun x hx => (HR46.out x hx).below h047)
      rw [EQ49.out] at hc50
      refine hc50.mono ?_
      rintro e z51 ⟨rfl, hz51⟩
      have hq51 := below_trans h047 hz51
      replace xa1_ := cell_keep xa1_ hz51
      replace xb1_ := cell_keep xb1_ hz51
      replace xa2_ := cell_keep xa2_ hz51
      replace xb2_ := cell_keep xb2_ hz51
      replace xa5_ := cell_keep xa5_ hz51
      replace xb5_ := cell_keep xb5_ hz51
      replace xa6_ := cell_keep xa6_ hz51
      replace xb6_ := cell_keep xb6_ hz51
      clear hc50 hz51
      go_wp2_with fail
      go_ret
      exact ⟨rfl, below_trans HBL.out hq51⟩
  · have EQ9 := hid hq9
    clear hq9
    have EQ53 := hid (show prsOk s7 = false from by rw [← HSG7.out, prsOk_fmt]; exact EQ9.out)
    go_wp2_with fail
    have hc54 := implParseType s7 z7 HSS7.out
    rw [EQ53.out] at hc54
    refine hc54.mono ?_
    rintro e z54 ⟨k54, n54, a54, c54, f54, rfl, ht54, hf54, hz54⟩
    clear hc54
    have hba55 : Below z54.heap.size z54 (z54.alloc (Obj.cells #[.int .i64 k54, .slice a54 n54 c54] 25)) := ((Below.refl _ _).alloc (Nat.le_refl _) _)
    have hbb55 := below_trans hz54 hba55
    have hbc55 := below_trans hq7 hbb55
    replace HA4a := hid (HA4a.out.below hbc55)
    replace HR4a := hid (fun x hx => (HR4a.out x hx).below hbc55)
    replace HBL := hid (below_trans HBL.out hbc55)
    replace xa1_ := cell_keep xa1_ hbb55
    replace xb1_ := cell_keep xb1_ hbb55
    have hl55 := lay1 z54 (Obj.cells #[.int .i64 k54, .slice a54 n54 c54] 25)
    have HA54 := hid (ht54.below hba55)
    have HR54 := hid (show ∀ x ∈ f54, Raw (z54.alloc (Obj.cells #[.int .i64 k54, .slice a54 n54 c54] 25)) x from fun x hx => Raw.below (Fresh.raw ht54 hf54 x hx) hba55)
    have HC54 := hid (show ((prsT s7) : Ty).cnt ≤ 1048576 from prsT_cnt s7)
    have xa7_ : ((z54.alloc (Obj.cells #[.int .i64 k54, .slice a54 n54 c54] 25))).cell? ⟨z54.heap.size, 0, none⟩ = some (.int .i64 k54) := by rw [cell_of_block (hl55)]; rfl
    have xb7_ : ((z54.alloc (Obj.cells #[.int .i64 k54, .slice a54 n54 c54] 25))).cell? ⟨z54.heap.size, 1, none⟩ = some (.slice a54 n54 c54) := by rw [cell_of_block (hl55)]; rfl
    have h055 := Below.refl ((z54.alloc (Obj.cells #[.int .i64 k54, .slice a54 n54 c54] 25))).heap.size (z54.alloc (Obj.cells #[.int .i64 k54, .slice a54 n54 c54] 25))
    clear ht54
    clear hba55 hbb55 hbc55 hl55 hz54
    have XH58 : (s7.toList == s7.toList) = true := beq_self_eq_true _
    go_wp2_with fail
    refine wp_region_held_drew (S := (fun w' => Below ((z54.alloc (Obj.cells #[.int .i64 k54, .slice a54 n54 c54] 25))).heap.size ((z54.alloc (Obj.cells #[.int .i64 k54, .slice a54 n54 c54] 25))) w' ∧ w'.cell? ⟨z4.heap.size, 0, none⟩ = some (.int .i64 k4a) ∧ w'.cell? ⟨z4.heap.size, 1, none⟩ = some (.slice a4a n4a c4a) ∧ w'.cell? ⟨z54.heap.size, 0, none⟩ = some (.int .i64 k54) ∧ w'.cell? ⟨z54.heap.size, 1, none⟩ = some (.slice a54 n54 c54))) (by kernel_rfl) ?_ (fun hS0 => ?_)
    · (refine (fun hB => ⟨hB, cell_keep xa1_ hB, cell_keep xb1_ hB, cell_keep xa7_ hB, cell_keep xb7_ hB⟩ : Below ((z54.alloc (Obj.cells #[.int .i64 k54, .slice a54 n54 c54] 25))).heap.size ((z54.alloc (Obj.cells #[.int .i64 k54, .slice a54 n54 c54] 25))) _ → _) ?_; exact below_drew _)
    refine regTake (i := 0) (v := ?vg56_0) rfl (by kernel_rfl) (by kernel_rfl) (by kernel_rfl) (fun _ _ _ h => h) (Or.inl ⟨by rfl, ?hyg56_0⟩) (by assumption) ?_
    case hyg56_0 => (intro w hSw; (try dsimp only at hSw); go_simp; (try with_reducible rfl))
    try simp only [Act.put, List.setIfInBounds_toArray, List.set_cons_zero, List.set_cons_succ]
    refine regTake (i := 1) (v := ?vg56_1) rfl (by kernel_rfl) (by kernel_rfl) (by kernel_rfl) (fun _ _ _ h => h) (Or.inl ⟨by rfl, ?hyg56_1⟩) (by assumption) ?_
    case hyg56_1 => (intro w hSw; (try dsimp only at hSw); go_simp; (try with_reducible rfl))
    try simp only [Act.put, List.setIfInBounds_toArray, List.set_cons_zero, List.set_cons_succ]
    refine wpAnyH_ready (rs := [2]) (by kernel_rfl) (by simp) ?_
    refine regCons rfl (fun K hK => ?_)
    go_simp
    have hc57 := specFormatType t4a _ _ _ (HA4a.out.below (below_trans h055 (below_drew ((z54.alloc (Obj.cells #[.int .i64 k54, .slice a54 n54 c54] 25))))))
    rw [HSG7.out] at hc57
    refine hc57.mono ?_
    rintro e yg56_0 ⟨rfl, hyg56_0⟩
    have hkg56_0 := below_trans (below_drew ((z54.alloc (Obj.cells #[.int .i64 k54, .slice a54 n54 c54] 25)))) hyg56_0
    clear hc57
    refine hK.out _ _ ?_ (fun hS1 => ?_)
    · (refine (fun hB => ⟨hB, cell_keep xa1_ hB, cell_keep xb1_ hB, cell_keep xa7_ hB, cell_keep xb7_ hB⟩ : Below ((z54.alloc (Obj.cells #[.int .i64 k54, .slice a54 n54 c54] 25))).heap.size ((z54.alloc (Obj.cells #[.int .i64 k54, .slice a54 n54 c54] 25))) _ → _) ?_; exact hkg56_0)
    clear hK K hS0
    try simp only [Act.put, List.setIfInBounds_toArray, List.set_cons_zero, List.set_cons_succ]
    refine regTake (i := 3) (v := ?vg56_3) rfl (by kernel_rfl) (by kernel_rfl) (by kernel_rfl) (fun _ _ _ h => h) (Or.inl ⟨by rfl, ?hyg56_3⟩) (by assumption) ?_
    case hyg56_3 => (intro w hSw; (try dsimp only at hSw); go_simp; (try with_reducible rfl))
    try simp only [Act.put, List.setIfInBounds_toArray, List.set_cons_zero, List.set_cons_succ]
    refine regTake (i := 4) (v := ?vg56_4) rfl (by kernel_rfl) (by kernel_rfl) (by kernel_rfl) (fun _ _ _ h => h) (Or.inl ⟨by rfl, ?hyg56_4⟩) (by assumption) ?_
    case hyg56_4 => (intro w hSw; (try dsimp only at hSw); go_simp; (try with_reducible rfl))
    try simp only [Act.put, List.setIfInBounds_toArray, List.set_cons_zero, List.set_cons_succ]
    refine regTake (i := 5) (v := ?vg56_5) rfl (by kernel_rfl) (by kernel_rfl) (by kernel_rfl) (fun _ _ _ h => h) (Or.inl ⟨by rfl, ?hyg56_5⟩) (by assumption) ?_
    case hyg56_5 => (intro w hSw; (try dsimp only at hSw); go_simp; (try with_reducible rfl))
    try simp only [Act.put, List.setIfInBounds_toArray, List.set_cons_zero, List.set_cons_succ]
    refine regTake (i := 7) (v := ?vg56_7) rfl (by kernel_rfl) (by kernel_rfl) (by kernel_rfl) (fun _ _ _ h => h) (Or.inl ⟨by rfl, ?hyg56_7⟩) (by assumption) ?_
    case hyg56_7 => (intro w hSw; (try dsimp only at hSw); go_simp; (try with_reducible rfl))
    try simp only [Act.put, List.setIfInBounds_toArray, List.set_cons_zero, List.set_cons_succ]
    refine wpAnyH_ready (rs := [6]) (by kernel_rfl) (by simp) ?_
    refine regCons rfl (fun K hK => ?_)
    go_simp
    have hc59 := implTypeValid_any t4a _ _ _ (HA4a.out.below (below_trans h055 (hkg56_0)))
    rw [EQ9.out] at hc59
    refine hc59.mono ?_
    rintro e yg56_1 ⟨rfl, hyg56_1⟩
    have hkg56_1 := below_trans (hkg56_0) hyg56_1
    clear hc59
    refine hK.out _ _ ?_ (fun hS2 => ?_)
    · (refine (fun hB => ⟨hB, cell_keep xa1_ hB, cell_keep xb1_ hB, cell_keep xa7_ hB, cell_keep xb7_ hB⟩ : Below ((z54.alloc (Obj.cells #[.int .i64 k54, .slice a54 n54 c54] 25))).heap.size ((z54.alloc (Obj.cells #[.int .i64 k54, .slice a54 n54 c54] 25))) _ → _) ?_; exact hkg56_1)
    clear hK K hS1
    try simp only [Act.put, List.setIfInBounds_toArray, List.set_cons_zero, List.set_cons_succ]
    refine wpAnyH_ready (rs := [8]) (by kernel_rfl) (by simp) ?_
    refine regCons rfl (fun K hK => ?_)
    go_simp
    have hc61 := specTypeValid_any t4a _ _ _ (HA4a.out.below (below_trans h055 (hkg56_1)))
    rw [EQ9.out] at hc61
    refine hc61.mono ?_
    rintro e yg56_2 ⟨rfl, hyg56_2⟩
    have hkg56_2 := below_trans (hkg56_1) hyg56_2
    clear hc61
    refine hK.out _ _ ?_ (fun hS3 => ?_)
    · (refine (fun hB => ⟨hB, cell_keep xa1_ hB, cell_keep xb1_ hB, cell_keep xa7_ hB, cell_keep xb7_ hB⟩ : Below ((z54.alloc (Obj.cells #[.int .i64 k54, .slice a54 n54 c54] 25))).heap.size ((z54.alloc (Obj.cells #[.int .i64 k54, .slice a54 n54 c54] 25))) _ → _) ?_; exact hkg56_2)
    clear hK K hS2
    try simp only [Act.put, List.setIfInBounds_toArray, List.set_cons_zero, List.set_cons_succ]
    refine regTake (i := 9) (v := ?vg56_9) rfl (by kernel_rfl) (by kernel_rfl) (by kernel_rfl) (fun _ _ _ h => h) (Or.inl ⟨by rfl, ?hyg56_9⟩) (by assumption) ?_
    case hyg56_9 => (intro w hSw; (try dsimp only at hSw); go_simp; (try with_reducible rfl))
    try simp only [Act.put, List.setIfInBounds_toArray, List.set_cons_zero, List.set_cons_succ]
    refine regTake (i := 10) (v := .bool false) rfl (by kernel_rfl) (by kernel_rfl) (by kernel_rfl) (fun _ _ _ h => h) (Or.inl ⟨by rfl, ?hyg56_10⟩) (by assumption) ?_
    case hyg56_10 => (intro w hSw; (try dsimp only at hSw); go_simp; (try with_reducible rfl))
    try simp only [Act.put, List.setIfInBounds_toArray, List.set_cons_zero, List.set_cons_succ]
    refine regTake (i := 11) (v := ?vg56_11) rfl (by kernel_rfl) (by kernel_rfl) (by kernel_rfl) (fun _ _ _ h => h) (Or.inl ⟨by rfl, ?hyg56_11⟩) (by assumption) ?_
    case hyg56_11 => (intro w hSw; (try dsimp only at hSw); go_simp; (try with_reducible rfl))
    try simp only [Act.put, List.setIfInBounds_toArray, List.set_cons_zero, List.set_cons_succ]
    refine regTake (i := 12) (v := ?vg56_12) rfl (by kernel_rfl) (by kernel_rfl) (by kernel_rfl) (fun _ _ _ h => h) (Or.inl ⟨by rfl, ?hyg56_12⟩) (by assumption) ?_
    case hyg56_12 => (intro w hSw; (try dsimp only at hSw); go_simp; (try with_reducible rfl))
    try simp only [Act.put, List.setIfInBounds_toArray, List.set_cons_zero, List.set_cons_succ]
    refine regTake (i := 13) (v := ?vg56_13) rfl (by kernel_rfl) (by kernel_rfl) (by kernel_rfl) (fun _ _ _ h => h) (Or.inl ⟨by rfl, ?hyg56_13⟩) (by assumption) ?_
    case hyg56_13 => (intro w hSw; (try dsimp only at hSw); go_simp; (try with_reducible rfl))
    try simp only [Act.put, List.setIfInBounds_toArray, List.set_cons_zero, List.set_cons_succ]
    refine wpAnyH_ready (rs := [14]) (by kernel_rfl) (by simp) ?_
    refine regCons rfl (fun K hK => ?_)
    go_simp
    have hc63 := specTypeValid_any t4a _ _ _ (HA4a.out.below (below_trans h055 (hkg56_2)))
    rw [EQ9.out] at hc63
    refine hc63.mono ?_
    rintro e yg56_3 ⟨rfl, hyg56_3⟩
    have hkg56_3 := below_trans (hkg56_2) hyg56_3
    clear hc63
    refine hK.out _ _ ?_ (fun hS4 => ?_)
    · (refine (fun hB => ⟨hB, cell_keep xa1_ hB, cell_keep xb1_ hB, cell_keep xa7_ hB, cell_keep xb7_ hB⟩ : Below ((z54.alloc (Obj.cells #[.int .i64 k54, .slice a54 n54 c54] 25))).heap.size ((z54.alloc (Obj.cells #[.int .i64 k54, .slice a54 n54 c54] 25))) _ → _) ?_; exact hkg56_3)
    clear hK K hS3
    try simp only [Act.put, List.setIfInBounds_toArray, List.set_cons_zero, List.set_cons_succ]
    refine regTake (i := 15) (v := ?vg56_15) rfl (by kernel_rfl) (by kernel_rfl) (by kernel_rfl) (fun _ _ _ h => h) (Or.inl ⟨by rfl, ?hyg56_15⟩) (by assumption) ?_
    case hyg56_15 => (intro w hSw; (try dsimp only at hSw); go_simp; (try with_reducible rfl))
    try simp only [Act.put, List.setIfInBounds_toArray, List.set_cons_zero, List.set_cons_succ]
    refine regTake (i := 16) (v := .bool false) rfl (by kernel_rfl) (by kernel_rfl) (by kernel_rfl) (fun _ _ _ h => h) (Or.inl ⟨by rfl, ?hyg56_16⟩) (by assumption) ?_
    case hyg56_16 => (intro w hSw; (try dsimp only at hSw); go_simp; (try with_reducible rfl))
    try simp only [Act.put, List.setIfInBounds_toArray, List.set_cons_zero, List.set_cons_succ]
    refine regTake (i := 17) (v := ?vg56_17) rfl (by kernel_rfl) (by kernel_rfl) (by kernel_rfl) (fun _ _ _ h => h) (Or.inl ⟨by rfl, ?hyg56_17⟩) (by assumption) ?_
    case hyg56_17 => (intro w hSw; (try dsimp only at hSw); go_simp; (try with_reducible rfl))
    try simp only [Act.put, List.setIfInBounds_toArray, List.set_cons_zero, List.set_cons_succ]
    refine regTake (i := 18) (v := ?vg56_18) rfl (by kernel_rfl) (by kernel_rfl) (by kernel_rfl) (fun _ _ _ h => h) (Or.inl ⟨by rfl, ?hyg56_18⟩) (by assumption) ?_
    case hyg56_18 => (intro w hSw; (try dsimp only at hSw); go_simp; (try with_reducible rfl))
    try simp only [Act.put, List.setIfInBounds_toArray, List.set_cons_zero, List.set_cons_succ]
    refine regTake (i := 19) (v := ?vg56_19) rfl (by kernel_rfl) (by kernel_rfl) (by kernel_rfl) (fun _ _ _ h => h) (Or.inl ⟨by rfl, ?hyg56_19⟩) (by assumption) ?_
    case hyg56_19 => (intro w hSw; (try dsimp only at hSw); go_simp; (try with_reducible rfl))
    try simp only [Act.put, List.setIfInBounds_toArray, List.set_cons_zero, List.set_cons_succ]
    refine regTake (i := 20) (v := undef) rfl (by kernel_rfl) (by kernel_rfl) (by kernel_rfl) (fun _ _ _ h => h) (Or.inr ⟨by rfl, rfl⟩) (by assumption) ?_
    try simp only [Act.put, List.setIfInBounds_toArray, List.set_cons_zero, List.set_cons_succ]
    refine regTake (i := 21) (v := undef) rfl (by kernel_rfl) (by kernel_rfl) (by kernel_rfl) (fun _ _ _ h => h) (Or.inr ⟨by rfl, rfl⟩) (by assumption) ?_
    try simp only [Act.put, List.setIfInBounds_toArray, List.set_cons_zero, List.set_cons_succ]
    refine regTake (i := 22) (v := undef) rfl (by kernel_rfl) (by kernel_rfl) (by kernel_rfl) (fun _ _ _ h => h) (Or.inr ⟨by rfl, rfl⟩) (by assumption) ?_
    try simp only [Act.put, List.setIfInBounds_toArray, List.set_cons_zero, List.set_cons_succ]
    refine regTake (i := 23) (v := undef) rfl (by kernel_rfl) (by kernel_rfl) (by kernel_rfl) (fun _ _ _ h => h) (Or.inr ⟨by rfl, rfl⟩) (by assumption) ?_
    try simp only [Act.put, List.setIfInBounds_toArray, List.set_cons_zero, List.set_cons_succ]
    refine regTake (i := 24) (v := .bool false) rfl (by kernel_rfl) (by kernel_rfl) (by kernel_rfl) (fun _ _ _ h => h) (Or.inl ⟨by rfl, ?hyg56_24⟩) (by assumption) ?_
    case hyg56_24 => (intro w hSw; (try dsimp only at hSw); go_simp; (try with_reducible rfl))
    try simp only [Act.put, List.setIfInBounds_toArray, List.set_cons_zero, List.set_cons_succ]
    refine regTake (i := 25) (v := .bool false) rfl (by kernel_rfl) (by kernel_rfl) (by kernel_rfl) (fun _ _ _ h => h) (Or.inl ⟨by rfl, ?hyg56_25⟩) (by assumption) ?_
    case hyg56_25 => (intro w hSw; (try dsimp only at hSw); go_simp; (try with_reducible rfl))
    try simp only [Act.put, List.setIfInBounds_toArray, List.set_cons_zero, List.set_cons_succ]
    refine wpAnyH_done (by kernel_rfl) ?_ _
    have hlg56_ := below_trans h055 hkg56_3
    replace xa1_ := cell_keep xa1_ hkg56_3
    replace xb1_ := cell_keep xb1_ hkg56_3
    replace xa7_ := cell_keep xa7_ hkg56_3
    replace xb7_ := cell_keep xb7_ hkg56_3
    go_wp2_with fail
    refine (drawParse_any a01 n01 cap01 _ (HBY1.out.below (below_trans HBL.out hlg56_)) HNN1.out HMM1.out).mono ?_
    rintro e z66 ⟨s66, rfl, hs66, hz66⟩
    have hq66 := below_trans hlg56_ hz66
    have HSS66 := hid (show s66.size ≤ 1048576 by omega)
    replace xa1_ := cell_keep xa1_ hz66
    replace xb1_ := cell_keep xb1_ hz66
    replace xa7_ := cell_keep xa7_ hz66
    replace xb7_ := cell_keep xb7_ hz66
    clear hz66 hs66
    rcases Bool.eq_false_or_eq_true (prsOk s66) with hq68 | hq68
    · have EQ68 := hid hq68
      clear hq68
      go_wp2_with fail
      have hc70 := implParseType s66 z66 HSS66.out
      rw [EQ68.out] at hc70
      refine hc70.mono ?_
      rintro e z70 ⟨k70, n70, a70, c70, f70, rfl, ht70, hf70, hz70⟩
      clear hc70
      have hba71 : Below z70.heap.size z70 (z70.alloc (Obj.cells #[.int .i64 k70, .slice a70 n70 c70] 25)) := ((Below.refl _ _).alloc (Nat.le_refl _) _)
      have hbb71 := below_trans hz70 hba71
      have hbc71 := below_trans hq66 hbb71
      replace HA4a := hid (HA4a.out.below hbc71)
      replace HR4a := hid (fun x hx => (HR4a.out x hx).below hbc71)
      replace HA54 := hid (HA54.out.below hbc71)
      replace HR54 := hid (fun x hx => (HR54.out x hx).below hbc71)
      replace HBL := hid (below_trans HBL.out hbc71)
      replace xa1_ := cell_keep xa1_ hbb71
      replace xb1_ := cell_keep xb1_ hbb71
      replace xa7_ := cell_keep xa7_ hbb71
      replace xb7_ := cell_keep xb7_ hbb71
      have hl71 := lay1 z70 (Obj.cells #[.int .i64 k70, .slice a70 n70 c70] 25)
      have HA70 := hid (ht70.below hba71)
      have HR70 := hid (show ∀ x ∈ f70, Raw (z70.alloc (Obj.cells #[.int .i64 k70, .slice a70 n70 c70] 25)) x from fun x hx => Raw.below (Fresh.raw ht70 hf70 x hx) hba71)
      have HC70 := hid (show ((prsT s66) : Ty).cnt ≤ 1048576 from prsT_cnt s66)
      have xa8_ : ((z70.alloc (Obj.cells #[.int .i64 k70, .slice a70 n70 c70] 25))).cell? ⟨z70.heap.size, 0, none⟩ = some (.int .i64 k70) := by rw [cell_of_block (hl71)]; rfl
      have xb8_ : ((z70.alloc (Obj.cells #[.int .i64 k70, .slice a70 n70 c70] 25))).cell? ⟨z70.heap.size, 1, none⟩ = some (.slice a70 n70 c70) := by rw [cell_of_block (hl71)]; rfl
      have h071 := Below.refl ((z70.alloc (Obj.cells #[.int .i64 k70, .slice a70 n70 c70] 25))).heap.size (z70.alloc (Obj.cells #[.int .i64 k70, .slice a70 n70 c70] 25))
      clear ht70
      clear hba71 hbb71 hbc71 hl71 hz70
      go_wp2_with fail
      have hc73 := specParseType s66 ((z70.alloc (Obj.cells #[.int .i64 k70, .slice a70 n70 c70] 25))) HSS66.out
      rw [EQ68.out] at hc73
      refine hc73.mono ?_
      rintro e z73 ⟨k73, n73, a73, c73, f73, rfl, ht73, hf73, hz73⟩
      clear hc73
      have hba74 : Below z73.heap.size z73 (z73.alloc (Obj.cells #[.int .i64 k73, .slice a73 n73 c73] 25)) := ((Below.refl _ _).alloc (Nat.le_refl _) _)
      have hbb74 := below_trans hz73 hba74
      have hbc74 := below_trans h071 hbb74
      replace HA4a := hid (HA4a.out.below hbc74)
      replace HR4a := hid (fun x hx => (HR4a.out x hx).below hbc74)
      replace HA54 := hid (HA54.out.below hbc74)
      replace HR54 := hid (fun x hx => (HR54.out x hx).below hbc74)
      replace HA70 := hid (HA70.out.below hbc74)
      replace HR70 := hid (fun x hx => (HR70.out x hx).below hbc74)
      replace HBL := hid (below_trans HBL.out hbc74)
      replace xa1_ := cell_keep xa1_ hbb74
      replace xb1_ := cell_keep xb1_ hbb74
      replace xa7_ := cell_keep xa7_ hbb74
      replace xb7_ := cell_keep xb7_ hbb74
      replace xa8_ := cell_keep xa8_ hbb74
      replace xb8_ := cell_keep xb8_ hbb74
      have hl74 := lay1 z73 (Obj.cells #[.int .i64 k73, .slice a73 n73 c73] 25)
      have HA73 := hid (ht73.below hba74)
      have HR73 := hid (show ∀ x ∈ f73, Raw (z73.alloc (Obj.cells #[.int .i64 k73, .slice a73 n73 c73] 25)) x from fun x hx => Raw.below (Fresh.raw ht73 hf73 x hx) hba74)
      have HC73 := hid (show ((prsT s66) : Ty).cnt ≤ 1048576 from prsT_cnt s66)
      have xa9_ : ((z73.alloc (Obj.cells #[.int .i64 k73, .slice a73 n73 c73] 25))).cell? ⟨z73.heap.size, 0, none⟩ = some (.int .i64 k73) := by rw [cell_of_block (hl74)]; rfl
      have xb9_ : ((z73.alloc (Obj.cells #[.int .i64 k73, .slice a73 n73 c73] 25))).cell? ⟨z73.heap.size, 1, none⟩ = some (.slice a73 n73 c73) := by rw [cell_of_block (hl74)]; rfl
      have h074 := Below.refl ((z73.alloc (Obj.cells #[.int .i64 k73, .slice a73 n73 c73] 25))).heap.size (z73.alloc (Obj.cells #[.int .i64 k73, .slice a73 n73 c73] 25))
      clear ht73
      clear hba74 hbb74 hbc74 hl74 hz73
      have EQ76 := hid (show tyEq (prsT s66) (prsT s66) = true from tyEq_refl (prsT s66))
      go_wp2_with fail
      have hc77 := implTypeSame (prsT s66) (prsT s66) _ _ _ _ _ (by have := HC70.out; omega) (HA70.out.below h074) (HA73.out.below h074) (fun x hx => (HR70.out x hx).below h074) (fun x hx => (HR73.out x hx).below h074)
      rw [EQ76.out] at hc77
      refine hc77.mono ?_
      rintro e z78 ⟨rfl, hz78⟩
      have hq78 := below_trans h074 hz78
      replace xa1_ := cell_keep xa1_ hz78
      replace xb1_ := cell_keep xb1_ hz78
      replace xa7_ := cell_keep xa7_ hz78
      replace xb7_ := cell_keep xb7_ hz78
      replace xa8_ := cell_keep xa8_ hz78
      replace xb8_ := cell_keep xb8_ hz78
      replace xa9_ := cell_keep xa9_ hz78
      replace xb9_ := cell_keep xb9_ hz78
      clear hc77 hz78
      go_wp2_with fail
      have hc79 := implFormatType (prsT s66) _ _ _ (HA70.out.below hq78)
      generalize hs79 : (⟨(fmtT (prsT s66)).toArray⟩ : ByteArray) = s79 at hc79
      have HSG79 := hid hs79
      have HSS79 := hid (show s79.size ≤ 1048576 by rw [← hs79]; exact fmt_size _)
      clear hs79
      refine hc79.mono ?_
      rintro e z79 ⟨rfl, hz79⟩
      have hq79 := below_trans hq78 hz79
      replace xa1_ := cell_keep xa1_ hz79
      replace xb1_ := cell_keep xb1_ hz79
      replace xa7_ := cell_keep xa7_ hz79
      replace xb7_ := cell_keep xb7_ hz79
      replace xa8_ := cell_keep xa8_ hz79
      replace xb8_ := cell_keep xb8_ hz79
      replace xa9_ := cell_keep xa9_ hz79
      replace xb9_ := cell_keep xb9_ hz79
      clear hc79 hz79
      have XH80 : (s79.toList == s66.toList) = true := by rw [← HSG79.out]; exact fmt_prs s66 EQ68.out
      go_wp2_with fail
      go_ret
      exact ⟨rfl, below_trans HBL.out hq79⟩
    · have EQ68 := hid hq68
      clear hq68
      go_wp2_with fail
      have hc82 := implParseType s66 z66 HSS66.out
      rw [EQ68.out] at hc82
      refine hc82.mono ?_
      rintro e z82 ⟨k82, n82, a82, c82, f82, rfl, ht82, hf82, hz82⟩
      clear hc82
      have hba83 : Below z82.heap.size z82 (z82.alloc (Obj.cells #[.int .i64 k82, .slice a82 n82 c82] 25)) := ((Below.refl _ _).alloc (Nat.le_refl _) _)
      have hbb83 := below_trans hz82 hba83
      have hbc83 := below_trans hq66 hbb83
      replace HA4a := hid (HA4a.out.below hbc83)
      replace HR4a := hid (fun x hx => (HR4a.out x hx).below hbc83)
      replace HA54 := hid (HA54.out.below hbc83)
      replace HR54 := hid (fun x hx => (HR54.out x hx).below hbc83)
      replace HBL := hid (below_trans HBL.out hbc83)
      replace xa1_ := cell_keep xa1_ hbb83
      replace xb1_ := cell_keep xb1_ hbb83
      replace xa7_ := cell_keep xa7_ hbb83
      replace xb7_ := cell_keep xb7_ hbb83
      have hl83 := lay1 z82 (Obj.cells #[.int .i64 k82, .slice a82 n82 c82] 25)
      have HA82 := hid (ht82.below hba83)
      have HR82 := hid (show ∀ x ∈ f82, Raw (z82.alloc (Obj.cells #[.int .i64 k82, .slice a82 n82 c82] 25)) x from fun x hx => Raw.below (Fresh.raw ht82 hf82 x hx) hba83)
      have HC82 := hid (show ((prsT s66) : Ty).cnt ≤ 1048576 from prsT_cnt s66)
      have xa10_ : ((z82.alloc (Obj.cells #[.int .i64 k82, .slice a82 n82 c82] 25))).cell? ⟨z82.heap.size, 0, none⟩ = some (.int .i64 k82) := by rw [cell_of_block (hl83)]; rfl
      have xb10_ : ((z82.alloc (Obj.cells #[.int .i64 k82, .slice a82 n82 c82] 25))).cell? ⟨z82.heap.size, 1, none⟩ = some (.slice a82 n82 c82) := by rw [cell_of_block (hl83)]; rfl
      have h083 := Below.refl ((z82.alloc (Obj.cells #[.int .i64 k82, .slice a82 n82 c82] 25))).heap.size (z82.alloc (Obj.cells #[.int .i64 k82, .slice a82 n82 c82] 25))
      clear ht82
      clear hba83 hbb83 hbc83 hl83 hz82
      go_wp2_with fail
      have hc85 := specParseType s66 ((z82.alloc (Obj.cells #[.int .i64 k82, .slice a82 n82 c82] 25))) HSS66.out
      rw [EQ68.out] at hc85
      refine hc85.mono ?_
      rintro e z85 ⟨k85, n85, a85, c85, f85, rfl, ht85, hf85, hz85⟩
      clear hc85
      have hba86 : Below z85.heap.size z85 (z85.alloc (Obj.cells #[.int .i64 k85, .slice a85 n85 c85] 25)) := ((Below.refl _ _).alloc (Nat.le_refl _) _)
      have hbb86 := below_trans hz85 hba86
      have hbc86 := below_trans h083 hbb86
      replace HA4a := hid (HA4a.out.below hbc86)
      replace HR4a := hid (fun x hx => (HR4a.out x hx).below hbc86)
      replace HA54 := hid (HA54.out.below hbc86)
      replace HR54 := hid (fun x hx => (HR54.out x hx).below hbc86)
      replace HA82 := hid (HA82.out.below hbc86)
      replace HR82 := hid (fun x hx => (HR82.out x hx).below hbc86)
      replace HBL := hid (below_trans HBL.out hbc86)
      replace xa1_ := cell_keep xa1_ hbb86
      replace xb1_ := cell_keep xb1_ hbb86
      replace xa7_ := cell_keep xa7_ hbb86
      replace xb7_ := cell_keep xb7_ hbb86
      replace xa10_ := cell_keep xa10_ hbb86
      replace xb10_ := cell_keep xb10_ hbb86
      have hl86 := lay1 z85 (Obj.cells #[.int .i64 k85, .slice a85 n85 c85] 25)
      have HA85 := hid (ht85.below hba86)
      have HR85 := hid (show ∀ x ∈ f85, Raw (z85.alloc (Obj.cells #[.int .i64 k85, .slice a85 n85 c85] 25)) x from fun x hx => Raw.below (Fresh.raw ht85 hf85 x hx) hba86)
      have HC85 := hid (show ((prsT s66) : Ty).cnt ≤ 1048576 from prsT_cnt s66)
      have xa11_ : ((z85.alloc (Obj.cells #[.int .i64 k85, .slice a85 n85 c85] 25))).cell? ⟨z85.heap.size, 0, none⟩ = some (.int .i64 k85) := by rw [cell_of_block (hl86)]; rfl
      have xb11_ : ((z85.alloc (Obj.cells #[.int .i64 k85, .slice a85 n85 c85] 25))).cell? ⟨z85.heap.size, 1, none⟩ = some (.slice a85 n85 c85) := by rw [cell_of_block (hl86)]; rfl
      have h086 := Below.refl ((z85.alloc (Obj.cells #[.int .i64 k85, .slice a85 n85 c85] 25))).heap.size (z85.alloc (Obj.cells #[.int .i64 k85, .slice a85 n85 c85] 25))
      clear ht85
      clear hba86 hbb86 hbc86 hl86 hz85
      have EQ88 := hid (show tyEq (prsT s66) (prsT s66) = true from tyEq_refl (prsT s66))
      go_wp2_with fail
      have hc89 := implTypeSame (prsT s66) (prsT s66) _ _ _ _ _ (by have := HC82.out; omega) (HA82.out.below h086) (HA85.out.below h086) (fun x hx => (HR82.out x hx).below h086) (fun x hx => (HR85.out x hx).below h086)
      rw [EQ88.out] at hc89
      refine hc89.mono ?_
      rintro e z90 ⟨rfl, hz90⟩
      have hq90 := below_trans h086 hz90
      replace xa1_ := cell_keep xa1_ hz90
      replace xb1_ := cell_keep xb1_ hz90
      replace xa7_ := cell_keep xa7_ hz90
      replace xb7_ := cell_keep xb7_ hz90
      replace xa10_ := cell_keep xa10_ hz90
      replace xb10_ := cell_keep xb10_ hz90
      replace xa11_ := cell_keep xa11_ hz90
      replace xb11_ := cell_keep xb11_ hz90
      clear hc89 hz90
      go_wp2_with fail
      go_ret
      exact ⟨rfl, below_trans HBL.out hq90⟩
end Go.Proofs.Ytelbpgdlcnnabaa
