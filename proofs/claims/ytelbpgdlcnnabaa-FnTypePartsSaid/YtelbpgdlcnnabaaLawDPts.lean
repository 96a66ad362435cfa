/- The law FnTypeParts: it returns true and writes nothing that was there. -/
import Derived.Test.YtelbpgdlcnnabaaDvD
import Derived.Test.YtelbpgdlcnnabaaPtP
import Derived.Test.YtelbpgdlcnnabaaReg
import Derived.Test.YtelbpgdlcnnabaaRaw
import Derived.Test.YtelbpgdlcnnabaaAny
import Derived.Test.YtelbpgdlcnnabaaStat
import Derived.Deep.RegionHeld3
import Derived.IntWalk
namespace Go.Proofs.Ytelbpgdlcnnabaa
open Go.RowKit

/-- Boxes that have just been laid. -/
theorem lay1 (w : World) (o1 : Obj) : (w.alloc o1).heap[w.heap.size]? = some o1 := alloc_new _ _
theorem lay2 (w : World) (o1 o2 : Obj) : ((w.alloc o1).alloc o2).heap[w.heap.size]? = some o1 ∧ ((w.alloc o1).alloc o2).heap[w.heap.size + 1]? = some o2 := by
  have h2 := alloc_new (w.alloc o1) o2
  have hs : (w.alloc o1).heap.size = w.heap.size + 1 := by simp
  rw [hs] at h2
  exact ⟨(Below.heap_alloc _ _ _ (by simp)).trans (alloc_new _ _), h2⟩
theorem lay3 (w : World) (o1 o2 o3 : Obj) : (((w.alloc o1).alloc o2).alloc o3).heap[w.heap.size]? = some o1 ∧ (((w.alloc o1).alloc o2).alloc o3).heap[w.heap.size + 1]? = some o2 ∧ (((w.alloc o1).alloc o2).alloc o3).heap[w.heap.size + 1 + 1]? = some o3 := by
  obtain ⟨a, b⟩ := lay2 w o1 o2
  have h3 := alloc_new ((w.alloc o1).alloc o2) o3
  have hs : ((w.alloc o1).alloc o2).heap.size = w.heap.size + 1 + 1 := by simp
  rw [hs] at h3
  exact ⟨(Below.heap_alloc _ _ _ (by simp; omega)).trans a, (Below.heap_alloc _ _ _ (by simp)).trans b, h3⟩


set_option linter.unusedSimpArgs false in
set_option linter.unusedVariables false in
set_option maxRecDepth 100000 in
set_option maxHeartbeats 16000000 in
theorem lawDPts (a00 : Option Addr) (n00 cap00 : Nat) (a01 : Option Addr) (n01 cap01 : Nat) (w : World) (hB0 : BytA w a00 n00) (hn0 : n00 ≤ cap00) (hm0 : cap00 ≤ maxLen) (hB1 : BytA w a01 n01) (hn1 : n01 ≤ cap01) (hm1 : cap01 ≤ maxLen) :
    Calls Try.prog 8 #[.slice a00 n00 cap00, .slice a01 n01 cap01] w fun e w' => e = .returned (.bool true) ∧ Below w.heap.size w w' := by
  by_cases hl0 : (n00 : Int) > 1048576
  · clear hB0 hB1
    go_enter Try.func8, Try.ntmps8
    go_wp2_with fail
    go_ret
    exact ⟨rfl, Below.refl _ _⟩
  by_cases hl1 : (n01 : Int) > 1048576
  · clear hB0 hB1
    go_enter Try.func8, Try.ntmps8
    go_wp2_with fail
    go_ret
    exact ⟨rfl, Below.refl _ _⟩
  have HBY0 := hid hB0
  have HNN0 := hid hn0
  have HMM0 := hid hm0
  have HBY1 := hid hB1
  have HNN1 := hid hn1
  have HMM1 := hid hm1
  clear hB0 hn0 hm0 hB1 hn1 hm1
  go_enter Try.func8, Try.ntmps8
  go_wp2_with fail
  refine (drawDepth_any a00 n00 cap00 _ (HBY0.out.below (Below.refl _ _)) HNN0.out HMM0.out).mono ?_
  rintro e z4 ⟨t4a, v4a, f4a, rfl, hs4, ht4a, hg4a, hz4⟩
  obtain ⟨k4a, n4a, a4a, c4a, rfl⟩ := ht4a.agg
  have hba5 : Below z4.heap.size z4 (z4.alloc (Obj.cells #[.int .i64 k4a, .slice a4a n4a c4a] 25)) := ((Below.refl _ _).alloc (Nat.le_refl _) _)
  have hbb5 := below_trans hz4 hba5
  have hbc5 := hbb5
  have HBL := hid hbc5
  have hl5 := lay1 z4 (Obj.cells #[.int .i64 k4a, .slice a4a n4a c4a] 25)
  have HA4a := hid (ht4a.below hba5)
  have HR4a := hid (show ∀ x ∈ f4a, Raw (z4.alloc (Obj.cells #[.int .i64 k4a, .slice a4a n4a c4a] 25)) x from fun x hx => Raw.below ⟨ht4a.laid x hx, (hg4a x hx).2⟩ hba5)
  have HC4a := hid (show ((t4a) : Ty).cnt ≤ 100 from hs4)
  have xa1_ : ((z4.alloc (Obj.cells #[.int .i64 k4a, .slice a4a n4a c4a] 25))).cell? ⟨z4.heap.size, 0, none⟩ = some (.int .i64 k4a) := by rw [cell_of_block (hl5)]; rfl
  have xb1_ : ((z4.alloc (Obj.cells #[.int .i64 k4a, .slice a4a n4a c4a] 25))).cell? ⟨z4.heap.size, 1, none⟩ = some (.slice a4a n4a c4a) := by rw [cell_of_block (hl5)]; rfl
  have h05 := Below.refl ((z4.alloc (Obj.cells #[.int .i64 k4a, .slice a4a n4a c4a] 25))).heap.size (z4.alloc (Obj.cells #[.int .i64 k4a, .slice a4a n4a c4a] 25))
  clear ht4a
  clear hba5 hbb5 hbc5 hl5 hz4
  go_wp2_with fail
  refine (drawDepth_any a01 n01 cap01 _ (HBY1.out.below (below_trans HBL.out h05)) HNN1.out HMM1.out).mono ?_
  rintro e z7 ⟨t7a, v7a, f7a, rfl, hs7, ht7a, hg7a, hz7⟩
  obtain ⟨k7a, n7a, a7a, c7a, rfl⟩ := ht7a.agg
  have hba8 : Below z7.heap.size z7 (z7.alloc (Obj.cells #[.int .i64 k7a, .slice a7a n7a c7a] 25)) := ((Below.refl _ _).alloc (Nat.le_refl _) _)
  have hbb8 := below_trans hz7 hba8
  have hbc8 := below_trans h05 hbb8
  replace HA4a := hid (HA4a.out.below hbc8)
  replace HR4a := hid (fun x hx => (HR4a.out x hx).below hbc8)
  replace HBL := hid (below_trans HBL.out hbc8)
  replace xa1_ := cell_keep xa1_ hbb8
  replace xb1_ := cell_keep xb1_ hbb8
  have hl8 := lay1 z7 (Obj.cells #[.int .i64 k7a, .slice a7a n7a c7a] 25)
  have HA7a := hid (ht7a.below hba8)
  have HR7a := hid (show ∀ x ∈ f7a, Raw (z7.alloc (Obj.cells #[.int .i64 k7a, .slice a7a n7a c7a] 25)) x from fun x hx => Raw.below ⟨ht7a.laid x hx, (hg7a x hx).2⟩ hba8)
  have HC7a := hid (show ((t7a) : Ty).cnt ≤ 100 from hs7)
  have xa2_ : ((z7.alloc (Obj.cells #[.int .i64 k7a, .slice a7a n7a c7a] 25))).cell? ⟨z7.heap.size, 0, none⟩ = some (.int .i64 k7a) := by rw [cell_of_block (hl8)]; rfl
  have xb2_ : ((z7.alloc (Obj.cells #[.int .i64 k7a, .slice a7a n7a c7a] 25))).cell? ⟨z7.heap.size, 1, none⟩ = some (.slice a7a n7a c7a) := by rw [cell_of_block (hl8)]; rfl
  have h08 := Below.refl ((z7.alloc (Obj.cells #[.int .i64 k7a, .slice a7a n7a c7a] 25))).heap.size (z7.alloc (Obj.cells #[.int .i64 k7a, .slice a7a n7a c7a] 25))
  clear ht7a
  clear hba8 hbb8 hbc8 hl8 hz7
  have hba11 : Below ((z7.alloc (Obj.cells #[.int .i64 k7a, .slice a7a n7a c7a] 25))).heap.size (z7.alloc (Obj.cells #[.int .i64 k7a, .slice a7a n7a c7a] 25)) (((z7.alloc (Obj.cells #[.int .i64 k7a, .slice a7a n7a c7a] 25)).alloc (Obj.cells #[.int .i64 k4a, .slice a4a n4a c4a, .int .i64 k7a, .slice a7a n7a c7a] 25)).alloc (Obj.cells #[.int .i64 4, .slice (some ⟨z7.heap.size + 1, 0, none⟩) 2 2] 25)) := (((Below.refl _ _).alloc (Nat.le_refl _) _).alloc (by simp) _)
  have hbb11 := hba11
  have hbc11 := below_trans h08 hbb11
  replace HA4a := hid (HA4a.out.below hbc11)
  replace HR4a := hid (fun x hx => (HR4a.out x hx).below hbc11)
  replace HA7a := hid (HA7a.out.below hbc11)
  replace HR7a := hid (fun x hx => (HR7a.out x hx).below hbc11)
  replace HBL := hid (below_trans HBL.out hbc11)
  have xo11xa1_ := xa1_
  have xo11xb1_ := xb1_
  have xo11xa2_ := xa2_
  have xo11xb2_ := xb2_
  replace xa1_ := cell_keep xa1_ hbb11
  replace xb1_ := cell_keep xb1_ hbb11
  replace xa2_ := cell_keep xa2_ hbb11
  replace xb2_ := cell_keep xb2_ hbb11
  have hl11 := lay2 ((z7.alloc (Obj.cells #[.int .i64 k7a, .slice a7a n7a c7a] 25))) (Obj.cells #[.int .i64 k4a, .slice a4a n4a c4a, .int .i64 k7a, .slice a7a n7a c7a] 25) (Obj.cells #[.int .i64 4, .slice (some ⟨z7.heap.size + 1, 0, none⟩) 2 2] 25)
  have hsz11 : ((z7.alloc (Obj.cells #[.int .i64 k7a, .slice a7a n7a c7a] 25))).heap.size = z7.heap.size + 1 := by simp
  rw [hsz11] at hl11
  clear hsz11
  have HAL10 := hid (show Ty.At (((z7.alloc (Obj.cells #[.int .i64 k7a, .slice a7a n7a c7a] 25)).alloc (Obj.cells #[.int .i64 k4a, .slice a4a n4a c4a, .int .i64 k7a, .slice a7a n7a c7a] 25)).alloc (Obj.cells #[.int .i64 4, .slice (some ⟨z7.heap.size + 1, 0, none⟩) 2 2] 25)) (.mk 4 [t4a, t7a]) (.agg #[.int .i64 4, .slice (some ⟨z7.heap.size + 1, 0, none⟩) 2 2]) _ from Ty.at_mk.2 ⟨_, rfl, .inr ⟨z7.heap.size + 1, 0, 2, _, rfl, by simp, by simp, by simp [maxLen], ⟨_, _, _, _, by rw [cell_of_block hl11.1]; rfl, by rw [cell_of_block hl11.1]; rfl, HA4a.out, ⟨_, _, _, [], by rw [cell_of_block hl11.1]; rfl, by rw [cell_of_block hl11.1]; rfl, HA7a.out, rfl, rfl⟩, rfl⟩, rfl⟩⟩)
  have HCL10 := hid (show ((.mk 4 [t4a, t7a]) : Ty).cnt ≤ 202 from (by have := HC4a.out; have := HC7a.out; simp only [Ty.cnt, cntL, List.length_cons, List.length_nil] at *; omega))
  have xa3_ : ((((z7.alloc (Obj.cells #[.int .i64 k7a, .slice a7a n7a c7a] 25)).alloc (Obj.cells #[.int .i64 k4a, .slice a4a n4a c4a, .int .i64 k7a, .slice a7a n7a c7a] 25)).alloc (Obj.cells #[.int .i64 4, .slice (some ⟨z7.heap.size + 1, 0, none⟩) 2 2] 25))).cell? ⟨z7.heap.size + 1 + 1, 0, none⟩ = some (.int .i64 4) := by rw [cell_of_block (hl11.2)]; rfl
  have xb3_ : ((((z7.alloc (Obj.cells #[.int .i64 k7a, .slice a7a n7a c7a] 25)).alloc (Obj.cells #[.int .i64 k4a, .slice a4a n4a c4a, .int .i64 k7a, .slice a7a n7a c7a] 25)).alloc (Obj.cells #[.int .i64 4, .slice (some ⟨z7.heap.size + 1, 0, none⟩) 2 2] 25))).cell? ⟨z7.heap.size + 1 + 1, 1, none⟩ = some (.slice (some ⟨z7.heap.size + 1, 0, none⟩) 2 2) := by rw [cell_of_block (hl11.2)]; rfl
  have h011 := Below.refl ((((z7.alloc (Obj.cells #[.int .i64 k7a, .slice a7a n7a c7a] 25)).alloc (Obj.cells #[.int .i64 k4a, .slice a4a n4a c4a, .int .i64 k7a, .slice a7a n7a c7a] 25)).alloc (Obj.cells #[.int .i64 4, .slice (some ⟨z7.heap.size + 1, 0, none⟩) 2 2] 25))).heap.size (((z7.alloc (Obj.cells #[.int .i64 k7a, .slice a7a n7a c7a] 25)).alloc (Obj.cells #[.int .i64 k4a, .slice a4a n4a c4a, .int .i64 k7a, .slice a7a n7a c7a] 25)).alloc (Obj.cells #[.int .i64 4, .slice (some ⟨z7.heap.size + 1, 0, none⟩) 2 2] 25))
  clear hba11 hbb11 hbc11 hl11
  have XF13 := depOf_bd t4a
  go_wp2_with fail
  have hc14 := implTypeDepth t4a _ _ _ (HA4a.out.below h011) (by have := HC4a.out; omega)
  refine hc14.mono ?_
  rintro e z15 ⟨rfl, hz15⟩
  have hq15 := below_trans h011 hz15
  replace xa1_ := cell_keep xa1_ hz15
  replace xb1_ := cell_keep xb1_ hz15
  replace xa2_ := cell_keep xa2_ hz15
  replace xb2_ := cell_keep xb2_ hz15
  replace xa3_ := cell_keep xa3_ hz15
  replace xb3_ := cell_keep xb3_ hz15
  clear hc14 hz15
  rcases Bool.eq_false_or_eq_true (vld (.mk 4 [t4a, t7a])) with hq19 | hq19
  · have EQ19 := hid hq19
    clear hq19
    go_wp2_with fail
    have hc21 := specTypeDepth t4a _ _ _ (HA4a.out.below hq15) (by have := HC4a.out; omega)
    refine hc21.mono ?_
    rintro e z22 ⟨rfl, hz22⟩
    have hq22 := below_trans hq15 hz22
    replace xa1_ := cell_keep xa1_ hz22
    replace xb1_ := cell_keep xb1_ hz22
    replace xa2_ := cell_keep xa2_ hz22
    replace xb2_ := cell_keep xb2_ hz22
    replace xa3_ := cell_keep xa3_ hz22
    replace xb3_ := cell_keep xb3_ hz22
    clear hc21 hz22
    go_wp2_with fail
    have hc23 := implTypeValid_any (.mk 4 [t4a, t7a]) _ _ _ (HAL10.out.below hq22)
    rw [EQ19.out] at hc23
    refine hc23.mono ?_
    rintro e z24 ⟨rfl, hz24⟩
    have hq24 := below_trans hq22 hz24
    replace xa1_ := cell_keep xa1_ hz24
    replace xb1_ := cell_keep xb1_ hz24
    replace xa2_ := cell_keep xa2_ hz24
    replace xb2_ := cell_keep xb2_ hz24
    replace xa3_ := cell_keep xa3_ hz24
    replace xb3_ := cell_keep xb3_ hz24
    clear hc23 hz24
    by_cases hgt29 : depOf t7a > depOf t4a
    · have hgu29 : depOf t4a < depOf t7a := hgt29
      have XF31 := depOf_bd t7a
      go_wp2_with fail
      have hc32 := implTypeDepth t7a _ _ _ (HA7a.out.below hq24) (by have := HC7a.out; omega)
      refine hc32.mono ?_
      rintro e z33 ⟨rfl, hz33⟩
      have hq33 := below_trans hq24 hz33
      replace xa1_ := cell_keep xa1_ hz33
      replace xb1_ := cell_keep xb1_ hz33
      replace xa2_ := cell_keep xa2_ hz33
      replace xb2_ := cell_keep xb2_ hz33
      replace xa3_ := cell_keep xa3_ hz33
      replace xb3_ := cell_keep xb3_ hz33
      clear hc32 hz33
      go_wp2_with fail
      have hc35 := implTypeDepth t7a _ _ _ (HA7a.out.below hq33) (by have := HC7a.out; omega)
      refine hc35.mono ?_
      rintro e z36 ⟨rfl, hz36⟩
      have hq36 := below_trans hq33 hz36
      replace xa1_ := cell_keep xa1_ hz36
      replace xb1_ := cell_keep xb1_ hz36
      replace xa2_ := cell_keep xa2_ hz36
      replace xb2_ := cell_keep xb2_ hz36
      replace xa3_ := cell_keep xa3_ hz36
      replace xb3_ := cell_keep xb3_ hz36
      clear hc35 hz36
      rcases Bool.eq_false_or_eq_true (staOf t4a) with hq52 | hq52
      · have EQ52 := hid hq52
        clear hq52
        rcases Bool.eq_false_or_eq_true (staOf t7a) with hq68 | hq68
        · have EQ68 := hid hq68
          clear hq68
          have EQ70 := hid (show depOf (.mk 4 [t4a, t7a]) = depOf t7a + 1 from (by have h := parts_dep t4a t7a EQ19.out; rw [h]; congr 1; first | rw [if_pos (by omega)] | rw [if_neg (by omega)]))
          have XW73 : IntKind.i64.wrap (depOf t7a + 1) = depOf t7a + 1 := IntWalk.i64_in _ (by omega)
          have EQ74 := hid (show anyOf (.mk 4 [t4a, t7a]) = anyOf t4a + anyOf t7a from parts_any t4a t7a EQ19.out)
          have XF77 := any_bd t4a
          have XF80 := any_bd t7a
          have XW83 : IntKind.i64.wrap (anyOf t4a + anyOf t7a) = anyOf t4a + anyOf t7a := IntWalk.i64_in _ (by omega)
          have EQ84 := hid (show staOf (.mk 4 [t4a, t7a]) = true from (by rw [parts_sta t4a t7a EQ19.out, EQ52.out, EQ68.out]; rfl))
          go_wp2_with fail
          refine wp_region_held_drew (S := (fun w' => Below (z36).heap.size (z36) w' ∧ w'.cell? ⟨z4.heap.size, 0, none⟩ = some (.int .i64 k4a) ∧ w'.cell? ⟨z4.heap.size, 1, none⟩ = some (.slice a4a n4a c4a) ∧ w'.cell? ⟨z7.heap.size, 0, none⟩ = some (.int .i64 k7a) ∧ w'.cell? ⟨z7.heap.size, 1, none⟩ = some (.slice a7a n7a c7a) ∧ w'.cell? ⟨z7.heap.size + 1 + 1, 0, none⟩ = some (.int .i64 4) ∧ w'.cell? ⟨z7.heap.size + 1 + 1, 1, none⟩ = some (.slice (some ⟨z7.heap.size + 1, 0, none⟩) 2 2))) (by kernel_rfl) ?_ (fun hS0 => ?_)
          · (refine (fun hB => ⟨hB, cell_keep xa1_ hB, cell_keep xb1_ hB, cell_keep xa2_ hB, cell_keep xb2_ hB, cell_keep xa3_ hB, cell_keep xb3_ hB⟩ : Below (z36).heap.size (z36) _ → _) ?_; exact below_drew _)
          refine regTake (i := 0) (v := ?vg69_0) rfl (by kernel_rfl) (by kernel_rfl) (by kernel_rfl) (fun _ _ _ h => h) (Or.inl ⟨by rfl, ?hyg69_0⟩) (by assumption) ?_
          case hyg69_0 => (intro w hSw; (try dsimp only at hSw); go_simp; (try with_reducible rfl))
          try simp only [Act.put, List.setIfInBounds_toArray, List.set_cons_zero, List.set_cons_succ]
          refine regTake (i := 2) (v := ?vg69_2) rfl (by kernel_rfl) (by kernel_rfl) (by kernel_rfl) (fun _ _ _ h => h) (Or.inl ⟨by rfl, ?hyg69_2⟩) (by assumption) ?_
          case hyg69_2 => (intro w hSw; (try dsimp only at hSw); go_simp; (try with_reducible rfl))
          try simp only [Act.put, List.setIfInBounds_toArray, List.set_cons_zero, List.set_cons_succ]
          refine regTake (i := 3) (v := ?vg69_3) rfl (by kernel_rfl) (by kernel_rfl) (by kernel_rfl) (fun _ _ _ h => h) (Or.inl ⟨by rfl, ?hyg69_3⟩) (by assumption) ?_
          case hyg69_3 => (intro w hSw; (try dsimp only at hSw); go_simp; (try with_reducible rfl))
          try simp only [Act.put, List.setIfInBounds_toArray, List.set_cons_zero, List.set_cons_succ]
          refine wpAnyH_ready (rs := [1]) (by kernel_rfl) (by simp) ?_
          refine regCons rfl (fun K hK => ?_)
          go_simp
          have hc71 := implTypeDepth (.mk 4 [t4a, t7a]) _ _ _ (HAL10.out.below (below_trans hq36 (below_drew (z36)))) (by have := HCL10.out; omega)
          rw [EQ70.out] at hc71
          refine hc71.mono ?_
          rintro e yg69_0 ⟨rfl, hyg69_0⟩
          have hkg69_0 := below_trans (below_drew (z36)) hyg69_0
          clear hc71
          refine hK.out _ _ ?_ (fun hS1 => ?_)
          · (refine (fun hB => ⟨hB, cell_keep xa1_ hB, cell_keep xb1_ hB, cell_keep xa2_ hB, cell_keep xb2_ hB, cell_keep xa3_ hB, cell_keep xb3_ hB⟩ : Below (z36).heap.size (z36) _ → _) ?_; exact hkg69_0)
          clear hK K hS0
          try simp only [Act.put, List.setIfInBounds_toArray, List.set_cons_zero, List.set_cons_succ]
          refine regTake (i := 4) (v := ?vg69_4) rfl (by kernel_rfl) (by kernel_rfl) (by kernel_rfl) (fun _ _ _ h => h) (Or.inl ⟨by rfl, ?hyg69_4⟩) (by assumption) ?_
          case hyg69_4 => (intro w hSw; (try dsimp only at hSw); go_simp; (try with_reducible rfl))
          try simp only [Act.put, List.setIfInBounds_toArray, List.set_cons_zero, List.set_cons_succ]
          refine regTake (i := 5) (v := ?vg69_5) rfl (by kernel_rfl) (by kernel_rfl) (by kernel_rfl) (fun _ _ _ h => h) (Or.inl ⟨by rfl, ?hyg69_5⟩) (by assumption) ?_
          case hyg69_5 => (intro w hSw; (try dsimp only at hSw); go_simp; (try with_reducible rfl))
          try simp only [Act.put, List.setIfInBounds_toArray, List.set_cons_zero, List.set_cons_succ]
          refine regTake (i := 6) (v := ?vg69_6) rfl (by kernel_rfl) (by kernel_rfl) (by kernel_rfl) (fun _ _ _ h => h) (Or.inl ⟨by rfl, ?hyg69_6⟩) (by assumption) ?_
          case hyg69_6 => (intro w hSw; (try dsimp only at hSw); go_simp; (try with_reducible rfl))
          try simp only [Act.put, List.setIfInBounds_toArray, List.set_cons_zero, List.set_cons_succ]
          refine regTake (i := 8) (v := ?vg69_8) rfl (by kernel_rfl) (by kernel_rfl) (by kernel_rfl) (fun _ _ _ h => h) (Or.inl ⟨by rfl, ?hyg69_8⟩) (by assumption) ?_
          case hyg69_8 => (intro w hSw; (try dsimp only at hSw); go_simp; (try with_reducible rfl))
          try simp only [Act.put, List.setIfInBounds_toArray, List.set_cons_zero, List.set_cons_succ]
          refine regTake (i := 10) (v := ?vg69_10) rfl (by kernel_rfl) (by kernel_rfl) (by kernel_rfl) (fun _ _ _ h => h) (Or.inl ⟨by rfl, ?hyg69_10⟩) (by assumption) ?_
          case hyg69_10 => (intro w hSw; (try dsimp only at hSw); go_simp; (try with_reducible rfl))
          try simp only [Act.put, List.setIfInBounds_toArray, List.set_cons_zero, List.set_cons_succ]
          refine wpAnyH_ready (rs := [7]) (by kernel_rfl) (by simp) ?_
          refine regCons rfl (fun K hK => ?_)
          go_simp
          have hc75 := implCountAny (.mk 4 [t4a, t7a]) _ _ _ (HAL10.out.below (below_trans hq36 (hkg69_0))) (by have := HCL10.out; omega)
          rw [EQ74.out] at hc75
          refine hc75.mono ?_
          rintro e yg69_1 ⟨rfl, hyg69_1⟩
          have hkg69_1 := below_trans (hkg69_0) hyg69_1
          clear hc75
          refine hK.out _ _ ?_ (fun hS2 => ?_)
          · (refine (fun hB => ⟨hB, cell_keep xa1_ hB, cell_keep xb1_ hB, cell_keep xa2_ hB, cell_keep xb2_ hB, cell_keep xa3_ hB, cell_keep xb3_ hB⟩ : Below (z36).heap.size (z36) _ → _) ?_; exact hkg69_1)
          clear hK K hS1
          try simp only [Act.put, List.setIfInBounds_toArray, List.set_cons_zero, List.set_cons_succ]
          refine wpAnyH_ready (rs := [9]) (by kernel_rfl) (by simp) ?_
          refine regCons rfl (fun K hK => ?_)
          go_simp
          have hc78 := implCountAny t4a _ _ _ (HA4a.out.below (below_trans hq36 (hkg69_1))) (by have := HC4a.out; omega)
          refine hc78.mono ?_
          rintro e yg69_2 ⟨rfl, hyg69_2⟩
          have hkg69_2 := below_trans (hkg69_1) hyg69_2
          clear hc78
          refine hK.out _ _ ?_ (fun hS3 => ?_)
          · (refine (fun hB => ⟨hB, cell_keep xa1_ hB, cell_keep xb1_ hB, cell_keep xa2_ hB, cell_keep xb2_ hB, cell_keep xa3_ hB, cell_keep xb3_ hB⟩ : Below (z36).heap.size (z36) _ → _) ?_; exact hkg69_2)
          clear hK K hS2
          try simp only [Act.put, List.setIfInBounds_toArray, List.set_cons_zero, List.set_cons_succ]
          refine wpAnyH_ready (rs := [11]) (by kernel_rfl) (by simp) ?_
          refine regCons rfl (fun K hK => ?_)
          go_simp
          have hc81 := implCountAny t7a _ _ _ (HA7a.out.below (below_trans hq36 (hkg69_2))) (by have := HC7a.out; omega)
          refine hc81.mono ?_
          rintro e yg69_3 ⟨rfl, hyg69_3⟩
          have hkg69_3 := below_trans (hkg69_2) hyg69_3
          clear hc81
          refine hK.out _ _ ?_ (fun hS4 => ?_)
          · (refine (fun hB => ⟨hB, cell_keep xa1_ hB, cell_keep xb1_ hB, cell_keep xa2_ hB, cell_keep xb2_ hB, cell_keep xa3_ hB, cell_keep xb3_ hB⟩ : Below (z36).heap.size (z36) _ → _) ?_; exact hkg69_3)
          clear hK K hS3
          try simp only [Act.put, List.setIfInBounds_toArray, List.set_cons_zero, List.set_cons_succ]
          refine regTake (i := 12) (v := ?vg69_12) rfl (by kernel_rfl) (by kernel_rfl) (by kernel_rfl) (fun _ _ _ h => h) (Or.inl ⟨by rfl, ?hyg69_12⟩) (by assumption) ?_
          case hyg69_12 => (intro w hSw; (try dsimp only at hSw); go_simp; (try with_reducible rfl))
          try simp only [Act.put, List.setIfInBounds_toArray, List.set_cons_zero, List.set_cons_succ]
          refine regTake (i := 13) (v := ?vg69_13) rfl (by kernel_rfl) (by kernel_rfl) (by kernel_rfl) (fun _ _ _ h => h) (Or.inl ⟨by rfl, ?hyg69_13⟩) (by assumption) ?_
          case hyg69_13 => (intro w hSw; (try dsimp only at hSw); go_simp; (try with_reducible rfl))
          try simp only [Act.put, List.setIfInBounds_toArray, List.set_cons_zero, List.set_cons_succ]
          refine regTake (i := 14) (v := .bool true) rfl (by kernel_rfl) (by kernel_rfl) (by kernel_rfl) (fun _ _ _ h => h) (Or.inl ⟨by rfl, ?hyg69_14⟩) (by assumption) ?_
          case hyg69_14 => (intro w hSw; (try dsimp only at hSw); go_simp; (try with_reducible rfl))
          try simp only [Act.put, List.setIfInBounds_toArray, List.set_cons_zero, List.set_cons_succ]
          refine regTake (i := 15) (v := ?vg69_15) rfl (by kernel_rfl) (by kernel_rfl) (by kernel_rfl) (fun _ _ _ h => h) (Or.inl ⟨by rfl, ?hyg69_15⟩) (by assumption) ?_
          case hyg69_15 => (intro w hSw; (try dsimp only at hSw); go_simp; (try with_reducible rfl))
          try simp only [Act.put, List.setIfInBounds_toArray, List.set_cons_zero, List.set_cons_succ]
          refine regTake (i := 16) (v := ?vg69_16) rfl (by kernel_rfl) (by kernel_rfl) (by kernel_rfl) (fun _ _ _ h => h) (Or.inl ⟨by rfl, ?hyg69_16⟩) (by assumption) ?_
          case hyg69_16 => (intro w hSw; (try dsimp only at hSw); go_simp; (try with_reducible rfl))
          try simp only [Act.put, List.setIfInBounds_toArray, List.set_cons_zero, List.set_cons_succ]
          refine regTake (i := 18) (v := ?vg69_18) rfl (by kernel_rfl) (by kernel_rfl) (by kernel_rfl) (fun _ _ _ h => h) (Or.inl ⟨by rfl, ?hyg69_18⟩) (by assumption) ?_
          case hyg69_18 => (intro w hSw; (try dsimp only at hSw); go_simp; (try with_reducible rfl))
          try simp only [Act.put, List.setIfInBounds_toArray, List.set_cons_zero, List.set_cons_succ]
          refine wpAnyH_ready (rs := [17]) (by kernel_rfl) (by simp) ?_
          refine regCons rfl (fun K hK => ?_)
          go_simp
          have hc85 := implIsStatic (.mk 4 [t4a, t7a]) _ _ _ (HAL10.out.below (below_trans hq36 (hkg69_3))) (by have := HCL10.out; omega)
          rw [EQ84.out] at hc85
          refine hc85.mono ?_
          rintro e yg69_4 ⟨rfl, hyg69_4⟩
          have hkg69_4 := below_trans (hkg69_3) hyg69_4
          clear hc85
          refine hK.out _ _ ?_ (fun hS5 => ?_)
          · (refine (fun hB => ⟨hB, cell_keep xa1_ hB, cell_keep xb1_ hB, cell_keep xa2_ hB, cell_keep xb2_ hB, cell_keep xa3_ hB, cell_keep xb3_ hB⟩ : Below (z36).heap.size (z36) _ → _) ?_; exact hkg69_4)
          clear hK K hS4
          try simp only [Act.put, List.setIfInBounds_toArray, List.set_cons_zero, List.set_cons_succ]
          refine wpAnyH_ready (rs := [19]) (by kernel_rfl) (by simp) ?_
          refine regCons rfl (fun K hK => ?_)
          go_simp
          have hc87 := implIsStatic t4a _ _ _ (HA4a.out.below (below_trans hq36 (hkg69_4))) (by have := HC4a.out; omega)
          rw [EQ52.out] at hc87
          refine hc87.mono ?_
          rintro e yg69_5 ⟨rfl, hyg69_5⟩
          have hkg69_5 := below_trans (hkg69_4) hyg69_5
          clear hc87
          refine hK.out _ _ ?_ (fun hS6 => ?_)
          · (refine (fun hB => ⟨hB, cell_keep xa1_ hB, cell_keep xb1_ hB, cell_keep xa2_ hB, cell_keep xb2_ hB, cell_keep xa3_ hB, cell_keep xb3_ hB⟩ : Below (z36).heap.size (z36) _ → _) ?_; exact hkg69_5)
          clear hK K hS5
          try simp only [Act.put, List.setIfInBounds_toArray, List.set_cons_zero, List.set_cons_succ]
          refine regTake (i := 20) (v := ?vg69_20) rfl (by kernel_rfl) (by kernel_rfl) (by kernel_rfl) (fun _ _ _ h => h) (Or.inl ⟨by rfl, ?hyg69_20⟩) (by assumption) ?_
          case hyg69_20 => (intro w hSw; (try dsimp only at hSw); go_simp; (try with_reducible rfl))
          try simp only [Act.put, List.setIfInBounds_toArray, List.set_cons_zero, List.set_cons_succ]
          refine regTake (i := 21) (v := ?vg69_21) rfl (by kernel_rfl) (by kernel_rfl) (by kernel_rfl) (fun _ _ _ h => h) (Or.inl ⟨by rfl, ?hyg69_21⟩) (by assumption) ?_
          case hyg69_21 => (intro w hSw; (try dsimp only at hSw); go_simp; (try with_reducible rfl))
          try simp only [Act.put, List.setIfInBounds_toArray, List.set_cons_zero, List.set_cons_succ]
          refine wpAnyH_ready (rs := [22]) (by kernel_rfl) (by simp) ?_
          refine regCons rfl (fun K hK => ?_)
          go_simp
          have hc89 := implIsStatic t7a _ _ _ (HA7a.out.below (below_trans hq36 (hkg69_5))) (by have := HC7a.out; omega)
          rw [EQ68.out] at hc89
          refine hc89.mono ?_
          rintro e yg69_6 ⟨rfl, hyg69_6⟩
          have hkg69_6 := below_trans (hkg69_5) hyg69_6
          clear hc89
          refine hK.out _ _ ?_ (fun hS7 => ?_)
          · (refine (fun hB => ⟨hB, cell_keep xa1_ hB, cell_keep xb1_ hB, cell_keep xa2_ hB, cell_keep xb2_ hB, cell_keep xa3_ hB, cell_keep xb3_ hB⟩ : Below (z36).heap.size (z36) _ → _) ?_; exact hkg69_6)
          clear hK K hS6
          try simp only [Act.put, List.setIfInBounds_toArray, List.set_cons_zero, List.set_cons_succ]
          refine regTake (i := 23) (v := .bool true) rfl (by kernel_rfl) (by kernel_rfl) (by kernel_rfl) (fun _ _ _ h => h) (Or.inl ⟨by rfl, ?hyg69_23⟩) (by assumption) ?_
          case hyg69_23 => (intro w hSw; (try dsimp only at hSw); go_simp; (try with_reducible rfl))
          try simp only [Act.put, List.setIfInBounds_toArray, List.set_cons_zero, List.set_cons_succ]
          refine regTake (i := 24) (v := ?vg69_24) rfl (by kernel_rfl) (by kernel_rfl) (by kernel_rfl) (fun _ _ _ h => h) (Or.inl ⟨by rfl, ?hyg69_24⟩) (by assumption) ?_
          case hyg69_24 => (intro w hSw; (try dsimp only at hSw); go_simp; (try with_reducible rfl))
          try simp only [Act.put, List.setIfInBounds_toArray, List.set_cons_zero, List.set_cons_succ]
          refine regTake (i := 25) (v := .bool true) rfl (by kernel_rfl) (by kernel_rfl) (by kernel_rfl) (fun _ _ _ h => h) (Or.inl ⟨by rfl, ?hyg69_25⟩) (by assumption) ?_
          case hyg69_25 => (intro w hSw; (try dsimp only at hSw); go_simp; (try with_reducible rfl))
          try simp only [Act.put, List.setIfInBounds_toArray, List.set_cons_zero, List.set_cons_succ]
          refine regTake (i := 26) (v := ?vg69_26) rfl (by kernel_rfl) (by kernel_rfl) (by kernel_rfl) (fun _ _ _ h => h) (Or.inl ⟨by rfl, ?hyg69_26⟩) (by assumption) ?_
          case hyg69_26 => (intro w hSw; (try dsimp only at hSw); go_simp; (try with_reducible rfl))
          try simp only [Act.put, List.setIfInBounds_toArray, List.set_cons_zero, List.set_cons_succ]
          refine wpAnyH_done (by kernel_rfl) ?_ _
          have hlg69_ := below_trans hq36 hkg69_6
          replace xa1_ := cell_keep xa1_ hkg69_6
          replace xb1_ := cell_keep xb1_ hkg69_6
          replace xa2_ := cell_keep xa2_ hkg69_6
          replace xb2_ := cell_keep xb2_ hkg69_6
          replace xa3_ := cell_keep xa3_ hkg69_6
          replace xb3_ := cell_keep xb3_ hkg69_6
          go_wp2_with fail
          go_ret
          exact ⟨rfl, below_trans HBL.out hlg69_⟩
        · have EQ68 := hid hq68
          clear hq68
          have EQ92 := hid (show depOf (.mk 4 [t4a, t7a]) = depOf t7a + 1 from (by have h := parts_dep t4a t7a EQ19.out; rw [h]; congr 1; first | rw [if_pos (by omega)] | rw [if_neg (by omega)]))
          have XW95 : IntKind.i64.wrap (depOf t7a + 1) = depOf t7a + 1 := IntWalk.i64_in _ (by omega)
          have EQ96 := hid (show anyOf (.mk 4 [t4a, t7a]) = anyOf t4a + anyOf t7a from parts_any t4a t7a EQ19.out)
          have XF99 := any_bd t4a
          have XF102 := any_bd t7a
          have XW105 : IntKind.i64.wrap (anyOf t4a + anyOf t7a) = anyOf t4a + anyOf t7a := IntWalk.i64_in _ (by omega)
          have EQ106 := hid (show staOf (.mk 4 [t4a, t7a]) = false from (by rw [parts_sta t4a t7a EQ19.out, EQ52.out, EQ68.out]; rfl))
          go_wp2_with fail
          refine wp_region_held_drew (S := (fun w' => Below (z36).heap.size (z36) w' ∧ w'.cell? ⟨z4.heap.size, 0, none⟩ = some (.int .i64 k4a) ∧ w'.cell? ⟨z4.heap.size, 1, none⟩ = some (.slice a4a n4a c4a) ∧ w'.cell? ⟨z7.heap.size, 0, none⟩ = some (.int .i64 k7a) ∧ w'.cell? ⟨z7.heap.size, 1, none⟩ = some (.slice a7a n7a c7a) ∧ w'.cell? ⟨z7.heap.size + 1 + 1, 0, none⟩ = some (.int .i64 4) ∧ w'.cell? ⟨z7.heap.size + 1 + 1, 1, none⟩ = some (.slice (some ⟨z7.heap.size + 1, 0, none⟩) 2 2))) (by kernel_rfl) ?_ (fun hS0 => ?_)
          · (refine (fun hB => ⟨hB, cell_keep xa1_ hB, cell_keep xb1_ hB, cell_keep xa2_ hB, cell_keep xb2_ hB, cell_keep xa3_ hB, cell_keep xb3_ hB⟩ : Below (z36).heap.size (z36) _ → _) ?_; exact below_drew _)
          refine regTake (i := 0) (v := ?vg91_0) rfl (by kernel_rfl) (by kernel_rfl) (by kernel_rfl) (fun _ _ _ h => h) (Or.inl ⟨by rfl, ?hyg91_0⟩) (by assumption) ?_
          case hyg91_0 => (intro w hSw; (try dsimp only at hSw); go_simp; (try with_reducible rfl))
          try simp only [Act.put, List.setIfInBounds_toArray, List.set_cons_zero, List.set_cons_succ]
          refine regTake (i := 2) (v := ?vg91_2) rfl (by kernel_rfl) (by kernel_rfl) (by kernel_rfl) (fun _ _ _ h => h) (Or.inl ⟨by rfl, ?hyg91_2⟩) (by assumption) ?_
          case hyg91_2 => (intro w hSw; (try dsimp only at hSw); go_simp; (try with_reducible rfl))
          try simp only [Act.put, List.setIfInBounds_toArray, List.set_cons_zero, List.set_cons_succ]
          refine regTake (i := 3) (v := ?vg91_3) rfl (by kernel_rfl) (by kernel_rfl) (by kernel_rfl) (fun _ _ _ h => h) (Or.inl ⟨by rfl, ?hyg91_3⟩) (by assumption) ?_
          case hyg91_3 => (intro w hSw; (try dsimp only at hSw); go_simp; (try with_reducible rfl))
          try simp only [Act.put, List.setIfInBounds_toArray, List.set_cons_zero, List.set_cons_succ]
          refine wpAnyH_ready (rs := [1]) (by kernel_rfl) (by simp) ?_
          refine regCons rfl (fun K hK => ?_)
          go_simp
          have hc93 := implTypeDepth (.mk 4 [t4a, t7a]) _ _ _ (HAL10.out.below (below_trans hq36 (below_drew (z36)))) (by have := HCL10.out; omega)
          rw [EQ92.out] at hc93
          refine hc93.mono ?_
          rintro e yg91_0 ⟨rfl, hyg91_0⟩
          have hkg91_0 := below_trans (below_drew (z36)) hyg91_0
          clear hc93
          refine hK.out _ _ ?_ (fun hS1 => ?_)
          · (refine (fun hB => ⟨hB, cell_keep xa1_ hB, cell_keep xb1_ hB, cell_keep xa2_ hB, cell_keep xb2_ hB, cell_keep xa3_ hB, cell_keep xb3_ hB⟩ : Below (z36).heap.size (z36) _ → _) ?_; exact hkg91_0)
          clear hK K hS0
          try simp only [Act.put, List.setIfInBounds_toArray, List.set_cons_zero, List.set_cons_succ]
          refine regTake (i := 4) (v := ?vg91_4) rfl (by kernel_rfl) (by kernel_rfl) (by kernel_rfl) (fun _ _ _ h => h) (Or.inl ⟨by rfl, ?hyg91_4⟩) (by assumption) ?_
          case hyg91_4 => (intro w hSw; (try dsimp only at hSw); go_simp; (try with_reducible rfl))
          try simp only [Act.put, List.setIfInBounds_toArray, List.set_cons_zero, List.set_cons_succ]
          refine regTake (i := 5) (v := ?vg91_5) rfl (by kernel_rfl) (by kernel_rfl) (by kernel_rfl) (fun _ _ _ h => h) (Or.inl ⟨by rfl, ?hyg91_5⟩) (by assumption) ?_
          case hyg91_5 => (intro w hSw; (try dsimp only at hSw); go_simp; (try with_reducible rfl))
          try simp only [Act.put, List.setIfInBounds_toArray, List.set_cons_zero, List.set_cons_succ]
          refine regTake (i := 6) (v := ?vg91_6) rfl (by kernel_rfl) (by kernel_rfl) (by kernel_rfl) (fun _ _ _ h => h) (Or.inl ⟨by rfl, ?hyg91_6⟩) (by assumption) ?_
          case hyg91_6 => (intro w hSw; (try dsimp only at hSw); go_simp; (try with_reducible rfl))
          try simp only [Act.put, List.setIfInBounds_toArray, List.set_cons_zero, List.set_cons_succ]
          refine regTake (i := 8) (v := ?vg91_8) rfl (by kernel_rfl) (by kernel_rfl) (by kernel_rfl) (fun _ _ _ h => h) (Or.inl ⟨by rfl, ?hyg91_8⟩) (by assumption) ?_
          case hyg91_8 => (intro w hSw; (try dsimp only at hSw); go_simp; (try with_reducible rfl))
          try simp only [Act.put, List.setIfInBounds_toArray, List.set_cons_zero, List.set_cons_succ]
          refine regTake (i := 10) (v := ?vg91_10) rfl (by kernel_rfl) (by kernel_rfl) (by kernel_rfl) (fun _ _ _ h => h) (Or.inl ⟨by rfl, ?hyg91_10⟩) (by assumption) ?_
          case hyg91_10 => (intro w hSw; (try dsimp only at hSw); go_simp; (try with_reducible rfl))
          try simp only [Act.put, List.setIfInBounds_toArray, List.set_cons_zero, List.set_cons_succ]
          refine wpAnyH_ready (rs := [7]) (by kernel_rfl) (by simp) ?_
          refine regCons rfl (fun K hK => ?_)
          go_simp
          have hc97 := implCountAny (.mk 4 [t4a, t7a]) _ _ _ (HAL10.out.below (below_trans hq36 (hkg91_0))) (by have := HCL10.out; omega)
          rw [EQ96.out] at hc97
          refine hc97.mono ?_
          rintro e yg91_1 ⟨rfl, hyg91_1⟩
          have hkg91_1 := below_trans (hkg91_0) hyg91_1
          clear hc97
          refine hK.out _ _ ?_ (fun hS2 => ?_)
          · (refine (fun hB => ⟨hB, cell_keep xa1_ hB, cell_keep xb1_ hB, cell_keep xa2_ hB, cell_keep xb2_ hB, cell_keep xa3_ hB, cell_keep xb3_ hB⟩ : Below (z36).heap.size (z36) _ → _) ?_; exact hkg91_1)
          clear hK K hS1
          try simp only [Act.put, List.setIfInBounds_toArray, List.set_cons_zero, List.set_cons_succ]
          refine wpAnyH_ready (rs := [9]) (by kernel_rfl) (by simp) ?_
          refine regCons rfl (fun K hK => ?_)
          go_simp
          have hc100 := implCountAny t4a _ _ _ (HA4a.out.below (below_trans hq36 (hkg91_1))) (by have := HC4a.out; omega)
          refine hc100.mono ?_
          rintro e yg91_2 ⟨rfl, hyg91_2⟩
          have hkg91_2 := below_trans (hkg91_1) hyg91_2
          clear hc100
          refine hK.out _ _ ?_ (fun hS3 => ?_)
          · (refine (fun hB => ⟨hB, cell_keep xa1_ hB, cell_keep xb1_ hB, cell_keep xa2_ hB, cell_keep xb2_ hB, cell_keep xa3_ hB, cell_keep xb3_ hB⟩ : Below (z36).heap.size (z36) _ → _) ?_; exact hkg91_2)
          clear hK K hS2
          try simp only [Act.put, List.setIfInBounds_toArray, List.set_cons_zero, List.set_cons_succ]
          refine wpAnyH_ready (rs := [11]) (by kernel_rfl) (by simp) ?_
          refine regCons rfl (fun K hK => ?_)
          go_simp
          have hc103 := implCountAny t7a _ _ _ (HA7a.out.below (below_trans hq36 (hkg91_2))) (by have := HC7a.out; omega)
          refine hc103.mono ?_
          rintro e yg91_3 ⟨rfl, hyg91_3⟩
          have hkg91_3 := below_trans (hkg91_2) hyg91_3
          clear hc103
          refine hK.out _ _ ?_ (fun hS4 => ?_)
          · (refine (fun hB => ⟨hB, cell_keep xa1_ hB, cell_keep xb1_ hB, cell_keep xa2_ hB, cell_keep xb2_ hB, cell_keep xa3_ hB, cell_keep xb3_ hB⟩ : Below (z36).heap.size (z36) _ → _) ?_; exact hkg91_3)
          clear hK K hS3
          try simp only [Act.put, List.setIfInBounds_toArray, List.set_cons_zero, List.set_cons_succ]
          refine regTake (i := 12) (v := ?vg91_12) rfl (by kernel_rfl) (by kernel_rfl) (by kernel_rfl) (fun _ _ _ h => h) (Or.inl ⟨by rfl, ?hyg91_12⟩) (by assumption) ?_
          case hyg91_12 => (intro w hSw; (try dsimp only at hSw); go_simp; (try with_reducible rfl))
          try simp only [Act.put, List.setIfInBounds_toArray, List.set_cons_zero, List.set_cons_succ]
          refine regTake (i := 13) (v := ?vg91_13) rfl (by kernel_rfl) (by kernel_rfl) (by kernel_rfl) (fun _ _ _ h => h) (Or.inl ⟨by rfl, ?hyg91_13⟩) (by assumption) ?_
          case hyg91_13 => (intro w hSw; (try dsimp only at hSw); go_simp; (try with_reducible rfl))
          try simp only [Act.put, List.setIfInBounds_toArray, List.set_cons_zero, List.set_cons_succ]
          refine regTake (i := 14) (v := .bool true) rfl (by kernel_rfl) (by kernel_rfl) (by kernel_rfl) (fun _ _ _ h => h) (Or.inl ⟨by rfl, ?hyg91_14⟩) (by assumption) ?_
          case hyg91_14 => (intro w hSw; (try dsimp only at hSw); go_simp; (try with_reducible rfl))
          try simp only [Act.put, List.setIfInBounds_toArray, List.set_cons_zero, List.set_cons_succ]
          refine regTake (i := 15) (v := ?vg91_15) rfl (by kernel_rfl) (by kernel_rfl) (by kernel_rfl) (fun _ _ _ h => h) (Or.inl ⟨by rfl, ?hyg91_15⟩) (by assumption) ?_
          case hyg91_15 => (intro w hSw; (try dsimp only at hSw); go_simp; (try with_reducible rfl))
          try simp only [Act.put, List.setIfInBounds_toArray, List.set_cons_zero, List.set_cons_succ]
          refine regTake (i := 16) (v := ?vg91_16) rfl (by kernel_rfl) (by kernel_rfl) (by kernel_rfl) (fun _ _ _ h => h) (Or.inl ⟨by rfl, ?hyg91_16⟩) (by assumption) ?_
          case hyg91_16 => (intro w hSw; (try dsimp only at hSw); go_simp; (try with_reducible rfl))
          try simp only [Act.put, List.setIfInBounds_toArray, List.set_cons_zero, List.set_cons_succ]
          refine regTake (i := 18) (v := ?vg91_18) rfl (by kernel_rfl) (by kernel_rfl) (by kernel_rfl) (fun _ _ _ h => h) (Or.inl ⟨by rfl, ?hyg91_18⟩) (by assumption) ?_
          case hyg91_18 => (intro w hSw; (try dsimp only at hSw); go_simp; (try with_reducible rfl))
          try simp only [Act.put, List.setIfInBounds_toArray, List.set_cons_zero, List.set_cons_succ]
          refine wpAnyH_ready (rs := [17]) (by kernel_rfl) (by simp) ?_
          refine regCons rfl (fun K hK => ?_)
          go_simp
          have hc107 := implIsStatic (.mk 4 [t4a, t7a]) _ _ _ (HAL10.out.below (below_trans hq36 (hkg91_3))) (by have := HCL10.out; omega)
          rw [EQ106.out] at hc107
          refine hc107.mono ?_
          rintro e yg91_4 ⟨rfl, hyg91_4⟩
          have hkg91_4 := below_trans (hkg91_3) hyg91_4
          clear hc107
          refine hK.out _ _ ?_ (fun hS5 => ?_)
          · (refine (fun hB => ⟨hB, cell_keep xa1_ hB, cell_keep xb1_ hB, cell_keep xa2_ hB, cell_keep xb2_ hB, cell_keep xa3_ hB, cell_keep xb3_ hB⟩ : Below (z36).heap.size (z36) _ → _) ?_; exact hkg91_4)
          clear hK K hS4
          try simp only [Act.put, List.setIfInBounds_toArray, List.set_cons_zero, List.set_cons_succ]
          refine wpAnyH_ready (rs := [19]) (by kernel_rfl) (by simp) ?_
          refine regCons rfl (fun K hK => ?_)
          go_simp
          have hc109 := implIsStatic t4a _ _ _ (HA4a.out.below (below_trans hq36 (hkg91_4))) (by have := HC4a.out; omega)
          rw [EQ52.out] at hc109
          refine hc109.mono ?_
          rintro e yg91_5 ⟨rfl, hyg91_5⟩
          have hkg91_5 := below_trans (hkg91_4) hyg91_5
          clear hc109
          refine hK.out _ _ ?_ (fun hS6 => ?_)
          · (refine (fun hB => ⟨hB, cell_keep xa1_ hB, cell_keep xb1_ hB, cell_keep xa2_ hB, cell_keep xb2_ hB, cell_keep xa3_ hB, cell_keep xb3_ hB⟩ : Below (z36).heap.size (z36) _ → _) ?_; exact hkg91_5)
          clear hK K hS5
          try simp only [Act.put, List.setIfInBounds_toArray, List.set_cons_zero, List.set_cons_succ]
          refine regTake (i := 20) (v := ?vg91_20) rfl (by kernel_rfl) (by kernel_rfl) (by kernel_rfl) (fun _ _ _ h => h) (Or.inl ⟨by rfl, ?hyg91_20⟩) (by assumption) ?_
          case hyg91_20 => (intro w hSw; (try dsimp only at hSw); go_simp; (try with_reducible rfl))
          try simp only [Act.put, List.setIfInBounds_toArray, List.set_cons_zero, List.set_cons_succ]
          refine regTake (i := 21) (v := ?vg91_21) rfl (by kernel_rfl) (by kernel_rfl) (by kernel_rfl) (fun _ _ _ h => h) (Or.inl ⟨by rfl, ?hyg91_21⟩) (by assumption) ?_
          case hyg91_21 => (intro w hSw; (try dsimp only at hSw); go_simp; (try with_reducible rfl))
          try simp only [Act.put, List.setIfInBounds_toArray, List.set_cons_zero, List.set_cons_succ]
          refine wpAnyH_ready (rs := [22]) (by kernel_rfl) (by simp) ?_
          refine regCons rfl (fun K hK => ?_)
          go_simp
          have hc111 := implIsStatic t7a _ _ _ (HA7a.out.below (below_trans hq36 (hkg91_5))) (by have := HC7a.out; omega)
          rw [EQ68.out] at hc111
          refine hc111.mono ?_
          rintro e yg91_6 ⟨rfl, hyg91_6⟩
          have hkg91_6 := below_trans (hkg91_5) hyg91_6
          clear hc111
          refine hK.out _ _ ?_ (fun hS7 => ?_)
          · (refine (fun hB => ⟨hB, cell_keep xa1_ hB, cell_keep xb1_ hB, cell_keep xa2_ hB, cell_keep xb2_ hB, cell_keep xa3_ hB, cell_keep xb3_ hB⟩ : Below (z36).heap.size (z36) _ → _) ?_; exact hkg91_6)
          clear hK K hS6
          try simp only [Act.put, List.setIfInBounds_toArray, List.set_cons_zero, List.set_cons_succ]
          refine regTake (i := 23) (v := .bool false) rfl (by kernel_rfl) (by kernel_rfl) (by kernel_rfl) (fun _ _ _ h => h) (Or.inl ⟨by rfl, ?hyg91_23⟩) (by assumption) ?_
          case hyg91_23 => (intro w hSw; (try dsimp only at hSw); go_simp; (try with_reducible rfl))
          try simp only [Act.put, List.setIfInBounds_toArray, List.set_cons_zero, List.set_cons_succ]
          refine regTake (i := 24) (v := ?vg91_24) rfl (by kernel_rfl) (by kernel_rfl) (by kernel_rfl) (fun _ _ _ h => h) (Or.inl ⟨by rfl, ?hyg91_24⟩) (by assumption) ?_
          case hyg91_24 => (intro w hSw; (try dsimp only at hSw); go_simp; (try with_reducible rfl))
          try simp only [Act.put, List.setIfInBounds_toArray, List.set_cons_zero, List.set_cons_succ]
          refine regTake (i := 25) (v := .bool true) rfl (by kernel_rfl) (by kernel_rfl) (by kernel_rfl) (fun _ _ _ h => h) (Or.inl ⟨by rfl, ?hyg91_25⟩) (by assumption) ?_
          case hyg91_25 => (intro w hSw; (try dsimp only at hSw); go_simp; (try with_reducible rfl))
          try simp only [Act.put, List.setIfInBounds_toArray, List.set_cons_zero, List.set_cons_succ]
          refine regTake (i := 26) (v := ?vg91_26) rfl (by kernel_rfl) (by kernel_rfl) (by kernel_rfl) (fun _ _ _ h => h) (Or.inl ⟨by rfl, ?hyg91_26⟩) (by assumption) ?_
          case hyg91_26 => (intro w hSw; (try dsimp only at hSw); go_simp; (try with_reducible rfl))
          try simp only [Act.put, List.setIfInBounds_toArray, List.set_cons_zero, List.set_cons_succ]
          refine wpAnyH_done (by kernel_rfl) ?_ _
          have hlg91_ := below_trans hq36 hkg91_6
          replace xa1_ := cell_keep xa1_ hkg91_6
          replace xb1_ := cell_keep xb1_ hkg91_6
          replace xa2_ := cell_keep xa2_ hkg91_6
          replace xb2_ := cell_keep xb2_ hkg91_6
          replace xa3_ := cell_keep xa3_ hkg91_6
          replace xb3_ := cell_keep xb3_ hkg91_6
          go_wp2_with fail
          go_ret
          exact ⟨rfl, below_trans HBL.out hlg91_⟩
      · have EQ52 := hid hq52
        clear hq52
        rcases Bool.eq_false_or_eq_true (staOf t7a) with hq128 | hq128
        · have EQ128 := hid hq128
          clear hq128
          have EQ130 := hid (show depOf (.mk 4 [t4a, t7a]) = depOf t7a + 1 from (by have h := parts_dep t4a t7a EQ19.out; rw [h]; congr 1; first | rw [if_pos (by omega)] | rw [if_neg (by omega)]))
          have XW133 : IntKind.i64.wrap (depOf t7a + 1) = depOf t7a + 1 := IntWalk.i64_in _ (by omega)
          have EQ134 := hid (show anyOf (.mk 4 [t4a, t7a]) = anyOf t4a + anyOf t7a from parts_any t4a t7a EQ19.out)
          have XF137 := any_bd t4a
          have XF140 := any_bd t7a
          have XW143 : IntKind.i64.wrap (anyOf t4a + anyOf t7a) = anyOf t4a + anyOf t7a := IntWalk.i64_in _ (by omega)
          have EQ144 := hid (show staOf (.mk 4 [t4a, t7a]) = false from (by rw [parts_sta t4a t7a EQ19.out, EQ52.out, EQ128.out]; rfl))
          go_wp2_with fail
          refine wp_region_held_drew (S := (fun w' => Below (z36).heap.size (z36) w' ∧ w'.cell? ⟨z4.heap.size, 0, none⟩ = some (.int .i64 k4a) ∧ w'.cell? ⟨z4.heap.size, 1, none⟩ = some (.slice a4a n4a c4a) ∧ w'.cell? ⟨z7.heap.size, 0, none⟩ = some (.int .i64 k7a) ∧ w'.cell? ⟨z7.heap.size, 1, none⟩ = some (.slice a7a n7a c7a) ∧ w'.cell? ⟨z7.heap.size + 1 + 1, 0, none⟩ = some (.int .i64 4) ∧ w'.cell? ⟨z7.heap.size + 1 + 1, 1, none⟩ = some (.slice (some ⟨z7.heap.size + 1, 0, none⟩) 2 2))) (by kernel_rfl) ?_ (fun hS0 => ?_)
          · (refine (fun hB => ⟨hB, cell_keep xa1_ hB, cell_keep xb1_ hB, cell_keep xa2_ hB, cell_keep xb2_ hB, cell_keep xa3_ hB, cell_keep xb3_ hB⟩ : Below (z36).heap.size (z36) _ → _) ?_; exact below_drew _)
          refine regTake (i := 0) (v := ?vg129_0) rfl (by kernel_rfl) (by kernel_rfl) (by kernel_rfl) (fun _ _ _ h => h) (Or.inl ⟨by rfl, ?hyg129_0⟩) (by assumption) ?_
          case hyg129_0 => (intro w hSw; (try dsimp only at hSw); go_simp; (try with_reducible rfl))
          try simp only [Act.put, List.setIfInBounds_toArray, List.set_cons_zero, List.set_cons_succ]
          refine regTake (i := 2) (v := ?vg129_2) rfl (by kernel_rfl) (by kernel_rfl) (by kernel_rfl) (fun _ _ _ h => h) (Or.inl ⟨by rfl, ?hyg129_2⟩) (by assumption) ?_
          case hyg129_2 => (intro w hSw; (try dsimp only at hSw); go_simp; (try with_reducible rfl))
          try simp only [Act.put, List.setIfInBounds_toArray, List.set_cons_zero, List.set_cons_succ]
          refine regTake (i := 3) (v := ?vg129_3) rfl (by kernel_rfl) (by kernel_rfl) (by kernel_rfl) (fun _ _ _ h => h) (Or.inl ⟨by rfl, ?hyg129_3⟩) (by assumption) ?_
          case hyg129_3 => (intro w hSw; (try dsimp only at hSw); go_simp; (try with_reducible rfl))
          try simp only [Act.put, List.setIfInBounds_toArray, List.set_cons_zero, List.set_cons_succ]
          refine wpAnyH_ready (rs := [1]) (by kernel_rfl) (by simp) ?_
          refine regCons rfl (fun K hK => ?_)
          go_simp
          have hc131 := implTypeDepth (.mk 4 [t4a, t7a]) _ _ _ (HAL10.out.below (below_trans hq36 (below_drew (z36)))) (by have := HCL10.out; omega)
          rw [EQ130.out] at hc131
          refine hc131.mono ?_
          rintro e yg129_0 ⟨rfl, hyg129_0⟩
          have hkg129_0 := below_trans (below_drew (z36)) hyg129_0
          clear hc131
          refine hK.out _ _ ?_ (fun hS1 => ?_)
          · (refine (fun hB => ⟨hB, cell_keep xa1_ hB, cell_keep xb1_ hB, cell_keep xa2_ hB, cell_keep xb2_ hB, cell_keep xa3_ hB, cell_keep xb3_ hB⟩ : Below (z36).heap.size (z36) _ → _) ?_; exact hkg129_0)
          clear hK K hS0
          try simp only [Act.put, List.setIfInBounds_toArray, List.set_cons_zero, List.set_cons_succ]
          refine regTake (i := 4) (v := ?vg129_4) rfl (by kernel_rfl) (by kernel_rfl) (by kernel_rfl) (fun _ _ _ h => h) (Or.inl ⟨by rfl, ?hyg129_4⟩) (by assumption) ?_
          case hyg129_4 => (intro w hSw; (try dsimp only at hSw); go_simp; (try with_reducible rfl))
          try simp only [Act.put, List.setIfInBounds_toArray, List.set_cons_zero, List.set_cons_succ]
          refine regTake (i := 5) (v := ?vg129_5) rfl (by kernel_rfl) (by kernel_rfl) (by kernel_rfl) (fun _ _ _ h => h) (Or.inl ⟨by rfl, ?hyg129_5⟩) (by assumption) ?_
          case hyg129_5 => (intro w hSw; (try dsimp only at hSw); go_simp; (try with_reducible rfl))
          try simp only [Act.put, List.setIfInBounds_toArray, List.set_cons_zero, List.set_cons_succ]
          refine regTake (i := 6) (v := ?vg129_6) rfl (by kernel_rfl) (by kernel_rfl) (by kernel_rfl) (fun _ _ _ h => h) (Or.inl ⟨by rfl, ?hyg129_6⟩) (by assumption) ?_
          case hyg129_6 => (intro w hSw; (try dsimp only at hSw); go_simp; (try with_reducible rfl))
          try simp only [Act.put, List.setIfInBounds_toArray, List.set_cons_zero, List.set_cons_succ]
          refine regTake (i := 8) (v := ?vg129_8) rfl (by kernel_rfl) (by kernel_rfl) (by kernel_rfl) (fun _ _ _ h => h) (Or.inl ⟨by rfl, ?hyg129_8⟩) (by assumption) ?_
          case hyg129_8 => (intro w hSw; (try dsimp only at hSw); go_simp; (try with_reducible rfl))
          try simp only [Act.put, List.setIfInBounds_toArray, List.set_cons_zero, List.set_cons_succ]
          refine regTake (i := 10) (v := ?vg129_10) rfl (by kernel_rfl) (by kernel_rfl) (by kernel_rfl) (fun _ _ _ h => h) (Or.inl ⟨by rfl, ?hyg129_10⟩) (by assumption) ?_
          case hyg129_10 => (intro w hSw; (try dsimp only at hSw); go_simp; (try with_reducible rfl))
          try simp only [Act.put, List.setIfInBounds_toArray, List.set_cons_zero, List.set_cons_succ]
          refine wpAnyH_ready (rs := [7]) (by kernel_rfl) (by simp) ?_
          refine regCons rfl (fun K hK => ?_)
          go_simp
          have hc135 := implCountAny (.mk 4 [t4a, t7a]) _ _ _ (HAL10.out.below (below_trans hq36 (hkg129_0))) (by have := HCL10.out; omega)
          rw [EQ134.out] at hc135
          refine hc135.mono ?_
          rintro e yg129_1 ⟨rfl, hyg129_1⟩
          have hkg129_1 := below_trans (hkg129_0) hyg129_1
          clear hc135
          refine hK.out _ _ ?_ (fun hS2 => ?_)
          · (refine (fun hB => ⟨hB, cell_keep xa1_ hB, cell_keep xb1_ hB, cell_keep xa2_ hB, cell_keep xb2_ hB, cell_keep xa3_ hB, cell_keep xb3_ hB⟩ : Below (z36).heap.size (z36) _ → _) ?_; exact hkg129_1)
          clear hK K hS1
          try simp only [Act.put, List.setIfInBounds_toArray, List.set_cons_zero, List.set_cons_succ]
          refine wpAnyH_ready (rs := [9]) (by kernel_rfl) (by simp) ?_
          refine regCons rfl (fun K hK => ?_)
          go_simp
          have hc138 := implCountAny t4a _ _ _ (HA4a.out.below (below_trans hq36 (hkg129_1))) (by have := HC4a.out; omega)
          refine hc138.mono ?_
          rintro e yg129_2 ⟨rfl, hyg129_2⟩
          have hkg129_2 := below_trans (hkg129_1) hyg129_2
          clear hc138
          refine hK.out _ _ ?_ (fun hS3 => ?_)
          · (refine (fun hB => ⟨hB, cell_keep xa1_ hB, cell_keep xb1_ hB, cell_keep xa2_ hB, cell_keep xb2_ hB, cell_keep xa3_ hB, cell_keep xb3_ hB⟩ : Below (z36).heap.size (z36) _ → _) ?_; exact hkg129_2)
          clear hK K hS2
          try simp only [Act.put, List.setIfInBounds_toArray, List.set_cons_zero, List.set_cons_succ]
          refine wpAnyH_ready (rs := [11]) (by kernel_rfl) (by simp) ?_
          refine regCons rfl (fun K hK => ?_)
          go_simp
          have hc141 := implCountAny t7a _ _ _ (HA7a.out.below (below_trans hq36 (hkg129_2))) (by have := HC7a.out; omega)
          refine hc141.mono ?_
          rintro e yg129_3 ⟨rfl, hyg129_3⟩
          have hkg129_3 := below_trans (hkg129_2) hyg129_3
          clear hc141
          refine hK.out _ _ ?_ (fun hS4 => ?_)
          · (refine (fun hB => ⟨hB, cell_keep xa1_ hB, cell_keep xb1_ hB, cell_keep xa2_ hB, cell_keep xb2_ hB, cell_keep xa3_ hB, cell_keep xb3_ hB⟩ : Below (z36).heap.size (z36) _ → _) ?_; exact hkg129_3)
          clear hK K hS3
          try simp only [Act.put, List.setIfInBounds_toArray, List.set_cons_zero, List.set_cons_succ]
          refine regTake (i := 12) (v := ?vg129_12) rfl (by kernel_rfl) (by kernel_rfl) (by kernel_rfl) (fun _ _ _ h => h) (Or.inl ⟨by rfl, ?hyg129_12⟩) (by assumption) ?_
          case hyg129_12 => (intro w hSw; (try dsimp only at hSw); go_simp; (try with_reducible rfl))
          try simp only [Act.put, List.setIfInBounds_toArray, List.set_cons_zero, List.set_cons_succ]
          refine regTake (i := 13) (v := ?vg129_13) rfl (by kernel_rfl) (by kernel_rfl) (by kernel_rfl) (fun _ _ _ h => h) (Or.inl ⟨by rfl, ?hyg129_13⟩) (by assumption) ?_
          case hyg129_13 => (intro w hSw; (try dsimp only at hSw); go_simp; (try with_reducible rfl))
          try simp only [Act.put, List.setIfInBounds_toArray, List.set_cons_zero, List.set_cons_succ]
          refine regTake (i := 14) (v := .bool true) rfl (by kernel_rfl) (by kernel_rfl) (by kernel_rfl) (fun _ _ _ h => h) (Or.inl ⟨by rfl, ?hyg129_14⟩) (by assumption) ?_
          case hyg129_14 => (intro w hSw; (try dsimp only at hSw); go_simp; (try with_reducible rfl))
          try simp only [Act.put, List.setIfInBounds_toArray, List.set_cons_zero, List.set_cons_succ]
          refine regTake (i := 15) (v := ?vg129_15) rfl (by kernel_rfl) (by kernel_rfl) (by kernel_rfl) (fun _ _ _ h => h) (Or.inl ⟨by rfl, ?hyg129_15⟩) (by assumption) ?_
          case hyg129_15 => (intro w hSw; (try dsimp only at hSw); go_simp; (try with_reducible rfl))
          try simp only [Act.put, List.setIfInBounds_toArray, List.set_cons_zero, List.set_cons_succ]
          refine regTake (i := 16) (v := ?vg129_16) rfl (by kernel_rfl) (by kernel_rfl) (by kernel_rfl) (fun _ _ _ h => h) (Or.inl ⟨by rfl, ?hyg129_16⟩) (by assumption) ?_
          case hyg129_16 => (intro w hSw; (try dsimp only at hSw); go_simp; (try with_reducible rfl))
          try simp only [Act.put, List.setIfInBounds_toArray, List.set_cons_zero, List.set_cons_succ]
          refine regTake (i := 18) (v := ?vg129_18) rfl (by kernel_rfl) (by kernel_rfl) (by kernel_rfl) (fun _ _ _ h => h) (Or.inl ⟨by rfl, ?hyg129_18⟩) (by assumption) ?_
          case hyg129_18 => (intro w hSw; (try dsimp only at hSw); go_simp; (try with_reducible rfl))
          try simp only [Act.put, List.setIfInBounds_toArray, List.set_cons_zero, List.set_cons_succ]
          refine wpAnyH_ready (rs := [17]) (by kernel_rfl) (by simp) ?_
          refine regCons rfl (fun K hK => ?_)
          go_simp
          have hc145 := implIsStatic (.mk 4 [t4a, t7a]) _ _ _ (HAL10.out.below (below_trans hq36 (hkg129_3))) (by have := HCL10.out; omega)
          rw [EQ144.out] at hc145
          refine hc145.mono ?_
          rintro e yg129_4 ⟨rfl, hyg129_4⟩
          have hkg129_4 := below_trans (hkg129_3) hyg129_4
          clear hc145
          refine hK.out _ _ ?_ (fun hS5 => ?_)
          · (refine (fun hB => ⟨hB, cell_keep xa1_ hB, cell_keep xb1_ hB, cell_keep xa2_ hB, cell_keep xb2_ hB, cell_keep xa3_ hB, cell_keep xb3_ hB⟩ : Below (z36).heap.size (z36) _ → _) ?_; exact hkg129_4)
          clear hK K hS4
          try simp only [Act.put, List.setIfInBounds_toArray, List.set_cons_zero, List.set_cons_succ]
          refine wpAnyH_ready (rs := [19]) (by kernel_rfl) (by simp) ?_
          refine regCons rfl (fun K hK => ?_)
          go_simp
          have hc147 := implIsStatic t4a _ _ _ (HA4a.out.below (below_trans hq36 (hkg129_4))) (by have := HC4a.out; omega)
          rw [EQ52.out] at hc147
          refine hc147.mono ?_
          rintro e yg129_5 ⟨rfl, hyg129_5⟩
          have hkg129_5 := below_trans (hkg129_4) hyg129_5
          clear hc147
          refine hK.out _ _ ?_ (fun hS6 => ?_)
          · (refine (fun hB => ⟨hB, cell_keep xa1_ hB, cell_keep xb1_ hB, cell_keep xa2_ hB, cell_keep xb2_ hB, cell_keep xa3_ hB, cell_keep xb3_ hB⟩ : Below (z36).heap.size (z36) _ → _) ?_; exact hkg129_5)
          clear hK K hS5
          try simp only [Act.put, List.setIfInBounds_toArray, List.set_cons_zero, List.set_cons_succ]
          refine regTake (i := 20) (v := ?vg129_20) rfl (by kernel_rfl) (by kernel_rfl) (by kernel_rfl) (fun _ _ _ h => h) (Or.inl ⟨by rfl, ?hyg129_20⟩) (by assumption) ?_
          case hyg129_20 => (intro w hSw; (try dsimp only at hSw); go_simp; (try with_reducible rfl))
          try simp only [Act.put, List.setIfInBounds_toArray, List.set_cons_zero, List.set_cons_succ]
          refine regTake (i := 21) (v := undef) rfl (by kernel_rfl) (by kernel_rfl) (by kernel_rfl) (fun _ _ _ h => h) (Or.inr ⟨by rfl, rfl⟩) (by assumption) ?_
          try simp only [Act.put, List.setIfInBounds_toArray, List.set_cons_zero, List.set_cons_succ]
          refine regTake (i := 22) (v := undef) rfl (by kernel_rfl) (by kernel_rfl) (by kernel_rfl) (fun _ _ _ h => h) (Or.inr ⟨by rfl, rfl⟩) (by assumption) ?_
          try simp only [Act.put, List.setIfInBounds_toArray, List.set_cons_zero, List.set_cons_succ]
          refine regTake (i := 23) (v := .bool false) rfl (by kernel_rfl) (by kernel_rfl) (by kernel_rfl) (fun _ _ _ h => h) (Or.inl ⟨by rfl, ?hyg129_23⟩) (by assumption) ?_
          case hyg129_23 => (intro w hSw; (try dsimp only at hSw); go_simp; (try with_reducible rfl))
          try simp only [Act.put, List.setIfInBounds_toArray, List.set_cons_zero, List.set_cons_succ]
          refine regTake (i := 24) (v := ?vg129_24) rfl (by kernel_rfl) (by kernel_rfl) (by kernel_rfl) (fun _ _ _ h => h) (Or.inl ⟨by rfl, ?hyg129_24⟩) (by assumption) ?_
          case hyg129_24 => (intro w hSw; (try dsimp only at hSw); go_simp; (try with_reducible rfl))
          try simp only [Act.put, List.setIfInBounds_toArray, List.set_cons_zero, List.set_cons_succ]
          refine regTake (i := 25) (v := .bool true) rfl (by kernel_rfl) (by kernel_rfl) (by kernel_rfl) (fun _ _ _ h => h) (Or.inl ⟨by rfl, ?hyg129_25⟩) (by assumption) ?_
          case hyg129_25 => (intro w hSw; (try dsimp only at hSw); go_simp; (try with_reducible rfl))
          try simp only [Act.put, List.setIfInBounds_toArray, List.set_cons_zero, List.set_cons_succ]
          refine regTake (i := 26) (v := ?vg129_26) rfl (by kernel_rfl) (by kernel_rfl) (by kernel_rfl) (fun _ _ _ h => h) (Or.inl ⟨by rfl, ?hyg129_26⟩) (by assumption) ?_
          case hyg129_26 => (intro w hSw; (try dsimp only at hSw); go_simp; (try with_reducible rfl))
          try simp only [Act.put, List.setIfInBounds_toArray, List.set_cons_zero, List.set_cons_succ]
          refine wpAnyH_done (by kernel_rfl) ?_ _
          have hlg129_ := below_trans hq36 hkg129_5
          replace xa1_ := cell_keep xa1_ hkg129_5
          replace xb1_ := cell_keep xb1_ hkg129_5
          replace xa2_ := cell_keep xa2_ hkg129_5
          replace xb2_ := cell_keep xb2_ hkg129_5
          replace xa3_ := cell_keep xa3_ hkg129_5
          replace xb3_ := cell_keep xb3_ hkg129_5
          go_wp2_with fail
          go_ret
          exact ⟨rfl, below_trans HBL.out hlg129_⟩
        · have EQ128 := hid hq128
          clear hq128
          have EQ150 := hid (show depOf (.mk 4 [t4a, t7a]) = depOf t7a + 1 from (by have h := parts_dep t4a t7a EQ19.out; rw [h]; congr 1; first | rw [if_pos (by omega)] | rw [if_neg (by omega)]))
          have XW153 : IntKind.i64.wrap (depOf t7a + 1) = depOf t7a + 1 := IntWalk.i64_in _ (by omega)
          have EQ154 := hid (show anyOf (.mk 4 [t4a, t7a]) = anyOf t4a + anyOf t7a from parts_any t4a t7a EQ19.out)
          have XF157 := any_bd t4a
          have XF160 := any_bd t7a
          have XW163 : IntKind.i64.wrap (anyOf t4a + anyOf t7a) = anyOf t4a + anyOf t7a := IntWalk.i64_in _ (by omega)
          have EQ164 := hid (show staOf (.mk 4 [t4a, t7a]) = false from (by rw [parts_sta t4a t7a EQ19.out, EQ52.out, EQ128.out]; rfl))
          go_wp2_with fail
          refine wp_region_held_drew (S := (fun w' => Below (z36).heap.size (z36) w' ∧ w'.cell? ⟨z4.heap.size, 0, none⟩ = some (.int .i64 k4a) ∧ w'.cell? ⟨z4.heap.size, 1, none⟩ = some (.slice a4a n4a c4a) ∧ w'.cell? ⟨z7.heap.size, 0, none⟩ = some (.int .i64 k7a) ∧ w'.cell? ⟨z7.heap.size, 1, none⟩ = some (.slice a7a n7a c7a) ∧ w'.cell? ⟨z7.heap.size + 1 + 1, 0, none⟩ = some (.int .i64 4) ∧ w'.cell? ⟨z7.heap.size + 1 + 1, 1, none⟩ = some (.slice (some ⟨z7.heap.size + 1, 0, none⟩) 2 2))) (by kernel_rfl) ?_ (fun hS0 => ?_)
          · (refine (fun hB => ⟨hB, cell_keep xa1_ hB, cell_keep xb1_ hB, cell_keep xa2_ hB, cell_keep xb2_ hB, cell_keep xa3_ hB, cell_keep xb3_ hB⟩ : Below (z36).heap.size (z36) _ → _) ?_; exact below_drew _)
          refine regTake (i := 0) (v := ?vg149_0) rfl (by kernel_rfl) (by kernel_rfl) (by kernel_rfl) (fun _ _ _ h => h) (Or.inl ⟨by rfl, ?hyg149_0⟩) (by assumption) ?_
          case hyg149_0 => (intro w hSw; (try dsimp only at hSw); go_simp; (try with_reducible rfl))
          try simp only [Act.put, List.setIfInBounds_toArray, List.set_cons_zero, List.set_cons_succ]
          refine regTake (i := 2) (v := ?vg149_2) rfl (by kernel_rfl) (by kernel_rfl) (by kernel_rfl) (fun _ _ _ h => h) (Or.inl ⟨by rfl, ?hyg149_2⟩) (by assumption) ?_
          case hyg149_2 => (intro w hSw; (try dsimp only at hSw); go_simp; (try with_reducible rfl))
          try simp only [Act.put, List.setIfInBounds_toArray, List.set_cons_zero, List.set_cons_succ]
          refine regTake (i := 3) (v := ?vg149_3) rfl (by kernel_rfl) (by kernel_rfl) (by kernel_rfl) (fun _ _ _ h => h) (Or.inl ⟨by rfl, ?hyg149_3⟩) (by assumption) ?_
          case hyg149_3 => (intro w hSw; (try dsimp only at hSw); go_simp; (try with_reducible rfl))
          try simp only [Act.put, List.setIfInBounds_toArray, List.set_cons_zero, List.set_cons_succ]
          refine wpAnyH_ready (rs := [1]) (by kernel_rfl) (by simp) ?_
          refine regCons rfl (fun K hK => ?_)
          go_simp
          have hc151 := implTypeDepth (.mk 4 [t4a, t7a]) _ _ _ (HAL10.out.below (below_trans hq36 (below_drew (z36)))) (by have := HCL10.out; omega)
          rw [EQ150.out] at hc151
          refine hc151.mono ?_
          rintro e yg149_0 ⟨rfl, hyg149_0⟩
          have hkg149_0 := below_trans (below_drew (z36)) hyg149_0
          clear hc151
          refine hK.out _ _ ?_ (fun hS1 => ?_)
          · (refine (fun hB => ⟨hB, cell_keep xa1_ hB, cell_keep xb1_ hB, cell_keep xa2_ hB, cell_keep xb2_ hB, cell_keep xa3_ hB, cell_keep xb3_ hB⟩ : Below (z36).heap.size (z36) _ → _) ?_; exact hkg149_0)
          clear hK K hS0
          try simp only [Act.put, List.setIfInBounds_toArray, List.set_cons_zero, List.set_cons_succ]
          refine regTake (i := 4) (v := ?vg149_4) rfl (by kernel_rfl) (by kernel_rfl) (by kernel_rfl) (fun _ _ _ h => h) (Or.inl ⟨by rfl, ?hyg149_4⟩) (by assumption) ?_
          case hyg149_4 => (intro w hSw; (try dsimp only at hSw); go_simp; (try with_reducible rfl))
          try simp only [Act.put, List.setIfInBounds_toArray, List.set_cons_zero, List.set_cons_succ]
          refine regTake (i := 5) (v := ?vg149_5) rfl (by kernel_rfl) (by kernel_rfl) (by kernel_rfl) (fun _ _ _ h => h) (Or.inl ⟨by rfl, ?hyg149_5⟩) (by assumption) ?_
          case hyg149_5 => (intro w hSw; (try dsimp only at hSw); go_simp; (try with_reducible rfl))
          try simp only [Act.put, List.setIfInBounds_toArray, List.set_cons_zero, List.set_cons_succ]
          refine regTake (i := 6) (v := ?vg149_6) rfl (by kernel_rfl) (by kernel_rfl) (by kernel_rfl) (fun _ _ _ h => h) (Or.inl ⟨by rfl, ?hyg149_6⟩) (by assumption) ?_
          case hyg149_6 => (intro w hSw; (try dsimp only at hSw); go_simp; (try with_reducible rfl))
          try simp only [Act.put, List.setIfInBounds_toArray, List.set_cons_zero, List.set_cons_succ]
          refine regTake (i := 8) (v := ?vg149_8) rfl (by kernel_rfl) (by kernel_rfl) (by kernel_rfl) (fun _ _ _ h => h) (Or.inl ⟨by rfl, ?hyg149_8⟩) (by assumption) ?_
          case hyg149_8 => (intro w hSw; (try dsimp only at hSw); go_simp; (try with_reducible rfl))
          try simp only [Act.put, List.setIfInBounds_toArray, List.set_cons_zero, List.set_cons_succ]
          refine regTake (i := 10) (v := ?vg149_10) rfl (by kernel_rfl) (by kernel_rfl) (by kernel_rfl) (fun _ _ _ h => h) (Or.inl ⟨by rfl, ?hyg149_10⟩) (by assumption) ?_
          case hyg149_10 => (intro w hSw; (try dsimp only at hSw); go_simp; (try with_reducible rfl))
          try simp only [Act.put, List.setIfInBounds_toArray, List.set_cons_zero, List.set_cons_succ]
          refine wpAnyH_ready (rs := [7]) (by kernel_rfl) (by simp) ?_
          refine regCons rfl (fun K hK => ?_)
          go_simp
          have hc155 := implCountAny (.mk 4 [t4a, t7a]) _ _ _ (HAL10.out.below (below_trans hq36 (hkg149_0))) (by have := HCL10.out; omega)
          rw [EQ154.out] at hc155
          refine hc155.mono ?_
          rintro e yg149_1 ⟨rfl, hyg149_1⟩
          have hkg149_1 := below_trans (hkg149_0) hyg149_1
          clear hc155
          refine hK.out _ _ ?_ (fun hS2 => ?_)
          · (refine (fun hB => ⟨hB, cell_keep xa1_ hB, cell_keep xb1_ hB, cell_keep xa2_ hB, cell_keep xb2_ hB, cell_keep xa3_ hB, cell_keep xb3_ hB⟩ : Below (z36).heap.size (z36) _ → _) ?_; exact hkg149_1)
          clear hK K hS1
          try simp only [Act.put, List.setIfInBounds_toArray, List.set_cons_zero, List.set_cons_succ]
          refine wpAnyH_ready (rs := [9]) (by kernel_rfl) (by simp) ?_
          refine regCons rfl (fun K hK => ?_)
          go_simp
          have hc158 := implCountAny t4a _ _ _ (HA4a.out.below (below_trans hq36 (hkg149_1))) (by have := HC4a.out; omega)
          refine hc158.mono ?_
          rintro e yg149_2 ⟨rfl, hyg149_2⟩
          have hkg149_2 := below_trans (hkg149_1) hyg149_2
          clear hc158
          refine hK.out _ _ ?_ (fun hS3 => ?_)
          · (refine (fun hB => ⟨hB, cell_keep xa1_ hB, cell_keep xb1_ hB, cell_keep xa2_ hB, cell_keep xb2_ hB, cell_keep xa3_ hB, cell_keep xb3_ hB⟩ : Below (z36).heap.size (z36) _ → _) ?_; exact hkg149_2)
          clear hK K hS2
          try simp only [Act.put, List.setIfInBounds_toArray, List.set_cons_zero, List.set_cons_succ]
          refine wpAnyH_ready (rs := [11]) (by kernel_rfl) (by simp) ?_
          refine regCons rfl (fun K hK => ?_)
          go_simp
          have hc161 := implCountAny t7a _ _ _ (HA7a.out.below (below_trans hq36 (hkg149_2))) (by have := HC7a.out; omega)
          refine hc161.mono ?_
          rintro e yg149_3 ⟨rfl, hyg149_3⟩
          have hkg149_3 := below_trans (hkg149_2) hyg149_3
          clear hc161
          refine hK.out _ _ ?_ (fun hS4 => ?_)
          · (refine (fun hB => ⟨hB, cell_keep xa1_ hB, cell_keep xb1_ hB, cell_keep xa2_ hB, cell_keep xb2_ hB, cell_keep xa3_ hB, cell_keep xb3_ hB⟩ : Below (z36).heap.size (z36) _ → _) ?_; exact hkg149_3)
          clear hK K hS3
          try simp only [Act.put, List.setIfInBounds_toArray, List.set_cons_zero, List.set_cons_succ]
          refine regTake (i := 12) (v := ?vg149_12) rfl (by kernel_rfl) (by kernel_rfl) (by kernel_rfl) (fun _ _ _ h => h) (Or.inl ⟨by rfl, ?hyg149_12⟩) (by assumption) ?_
          case hyg149_12 => (intro w hSw; (try dsimp only at hSw); go_simp; (try with_reducible rfl))
          try simp only [Act.put, List.setIfInBounds_toArray, List.set_cons_zero, List.set_cons_succ]
          refine regTake (i := 13) (v := ?vg149_13) rfl (by kernel_rfl) (by kernel_rfl) (by kernel_rfl) (fun _ _ _ h => h) (Or.inl ⟨by rfl, ?hyg149_13⟩) (by assumption) ?_
          case hyg149_13 => (intro w hSw; (try dsimp only at hSw); go_simp; (try with_reducible rfl))
          try simp only [Act.put, List.setIfInBounds_toArray, List.set_cons_zero, List.set_cons_succ]
          refine regTake (i := 14) (v := .bool true) rfl (by kernel_rfl) (by kernel_rfl) (by kernel_rfl) (fun _ _ _ h => h) (Or.inl ⟨by rfl, ?hyg149_14⟩) (by assumption) ?_
          case hyg149_14 => (intro w hSw; (try dsimp only at hSw); go_simp; (try with_reducible rfl))
          try simp only [Act.put, List.setIfInBounds_toArray, List.set_cons_zero, List.set_cons_succ]
          refine regTake (i := 15) (v := ?vg149_15) rfl (by kernel_rfl) (by kernel_rfl) (by kernel_rfl) (fun _ _ _ h => h) (Or.inl ⟨by rfl, ?hyg149_15⟩) (by assumption) ?_
          case hyg149_15 => (intro w hSw; (try dsimp only at hSw); go_simp; (try with_reducible rfl))
          try simp only [Act.put, List.setIfInBounds_toArray, List.set_cons_zero, List.set_cons_succ]
          refine regTake (i := 16) (v := ?vg149_16) rfl (by kernel_rfl) (by kernel_rfl) (by kernel_rfl) (fun _ _ _ h => h) (Or.inl ⟨by rfl, ?hyg149_16⟩) (by assumption) ?_
          case hyg149_16 => (intro w hSw; (try dsimp only at hSw); go_simp; (try with_reducible rfl))
          try simp only [Act.put, List.setIfInBounds_toArray, List.set_cons_zero, List.set_cons_succ]
          refine regTake (i := 18) (v := ?vg149_18) rfl (by kernel_rfl) (by kernel_rfl) (by kernel_rfl) (fun _ _ _ h => h) (Or.inl ⟨by rfl, ?hyg149_18⟩) (by assumption) ?_
          case hyg149_18 => (intro w hSw; (try dsimp only at hSw); go_simp; (try with_reducible rfl))
          try simp only [Act.put, List.setIfInBounds_toArray, List.set_cons_zero, List.set_cons_succ]
          refine wpAnyH_ready (rs := [17]) (by kernel_rfl) (by simp) ?_
          refine regCons rfl (fun K hK => ?_)
          go_simp
          have hc165 := implIsStatic (.mk 4 [t4a, t7a]) _ _ _ (HAL10.out.below (below_trans hq36 (hkg149_3))) (by have := HCL10.out; omega)
          rw [EQ164.out] at hc165
          refine hc165.mono ?_
          rintro e yg149_4 ⟨rfl, hyg149_4⟩
          have hkg149_4 := below_trans (hkg149_3) hyg149_4
          clear hc165
          refine hK.out _ _ ?_ (fun hS5 => ?_)
          · (refine (fun hB => ⟨hB, cell_keep xa1_ hB, cell_keep xb1_ hB, cell_keep xa2_ hB, cell_keep xb2_ hB, cell_keep xa3_ hB, cell_keep xb3_ hB⟩ : Below (z36).heap.size (z36) _ → _) ?_; exact hkg149_4)
          clear hK K hS4
          try simp only [Act.put, List.setIfInBounds_toArray, List.set_cons_zero, List.set_cons_succ]
          refine wpAnyH_ready (rs := [19]) (by kernel_rfl) (by simp) ?_
          refine regCons rfl (fun K hK => ?_)
          go_simp
          have hc167 := implIsStatic t4a _ _ _ (HA4a.out.below (below_trans hq36 (hkg149_4))) (by have := HC4a.out; omega)
          rw [EQ52.out] at hc167
          refine hc167.mono ?_
          rintro e yg149_5 ⟨rfl, hyg149_5⟩
          have hkg149_5 := below_trans (hkg149_4) hyg149_5
          clear hc167
          refine hK.out _ _ ?_ (fun hS6 => ?_)
          · (refine (fun hB => ⟨hB, cell_keep xa1_ hB, cell_keep xb1_ hB, cell_keep xa2_ hB, cell_keep xb2_ hB, cell_keep xa3_ hB, cell_keep xb3_ hB⟩ : Below (z36).heap.size (z36) _ → _) ?_; exact hkg149_5)
          clear hK K hS5
          try simp only [Act.put, List.setIfInBounds_toArray, List.set_cons_zero, List.set_cons_succ]
          refine regTake (i := 20) (v := ?vg149_20) rfl (by kernel_rfl) (by kernel_rfl) (by kernel_rfl) (fun _ _ _ h => h) (Or.inl ⟨by rfl, ?hyg149_20⟩) (by assumption) ?_
          case hyg149_20 => (intro w hSw; (try dsimp only at hSw); go_simp; (try with_reducible rfl))
          try simp only [Act.put, List.setIfInBounds_toArray, List.set_cons_zero, List.set_cons_succ]
          refine regTake (i := 21) (v := undef) rfl (by kernel_rfl) (by kernel_rfl) (by kernel_rfl) (fun _ _ _ h => h) (Or.inr ⟨by rfl, rfl⟩) (by assumption) ?_
          try simp only [Act.put, List.setIfInBounds_toArray, List.set_cons_zero, List.set_cons_succ]
          refine regTake (i := 22) (v := undef) rfl (by kernel_rfl) (by kernel_rfl) (by kernel_rfl) (fun _ _ _ h => h) (Or.inr ⟨by rfl, rfl⟩) (by assumption) ?_
          try simp only [Act.put, List.setIfInBounds_toArray, List.set_cons_zero, List.set_cons_succ]
          refine regTake (i := 23) (v := .bool false) rfl (by kernel_rfl) (by kernel_rfl) (by kernel_rfl) (fun _ _ _ h => h) (Or.inl ⟨by rfl, ?hyg149_23⟩) (by assumption) ?_
          case hyg149_23 => (intro w hSw; (try dsimp only at hSw); go_simp; (try with_reducible rfl))
          try simp only [Act.put, List.setIfInBounds_toArray, List.set_cons_zero, List.set_cons_succ]
          refine regTake (i := 24) (v := ?vg149_24) rfl (by kernel_rfl) (by kernel_rfl) (by kernel_rfl) (fun _ _ _ h => h) (Or.inl ⟨by rfl, ?hyg149_24⟩) (by assumption) ?_
          case hyg149_24 => (intro w hSw; (try dsimp only at hSw); go_simp; (try with_reducible rfl))
          try simp only [Act.put, List.setIfInBounds_toArray, List.set_cons_zero, List.set_cons_succ]
          refine regTake (i := 25) (v := .bool true) rfl (by kernel_rfl) (by kernel_rfl) (by kernel_rfl) (fun _ _ _ h => h) (Or.inl ⟨by rfl, ?hyg149_25⟩) (by assumption) ?_
          case hyg149_25 => (intro w hSw; (try dsimp only at hSw); go_simp; (try with_reducible rfl))
          try simp only [Act.put, List.setIfInBounds_toArray, List.set_cons_zero, List.set_cons_succ]
          refine regTake (i := 26) (v := ?vg149_26) rfl (by kernel_rfl) (by kernel_rfl) (by kernel_rfl) (fun _ _ _ h => h) (Or.inl ⟨by rfl, ?hyg149_26⟩) (by assumption) ?_
          case hyg149_26 => (intro w hSw; (try dsimp only at hSw); go_simp; (try with_reducible rfl))
          try simp only [Act.put, List.setIfInBounds_toArray, List.set_cons_zero, List.set_cons_succ]
          refine wpAnyH_done (by kernel_rfl) ?_ _
          have hlg149_ := below_trans hq36 hkg149_5
          replace xa1_ := cell_keep xa1_ hkg149_5
          replace xb1_ := cell_keep xb1_ hkg149_5
          replace xa2_ := cell_keep xa2_ hkg149_5
          replace xb2_ := cell_keep xb2_ hkg149_5
          replace xa3_ := cell_keep xa3_ hkg149_5
          replace xb3_ := cell_keep xb3_ hkg149_5
          go_wp2_with fail
          go_ret
          exact ⟨rfl, below_trans HBL.out hlg149_⟩
    · have hgu29 : depOf t7a ≤ depOf t4a := Int.not_lt.1 hgt29
      have XF170 := depOf_bd t7a
      go_wp2_with fail
      have hc171 := implTypeDepth t7a _ _ _ (HA7a.out.below hq24) (by have := HC7a.out; omega)
      refine hc171.mono ?_
      rintro e z172 ⟨rfl, hz172⟩
      have hq172 := below_trans hq24 hz172
      replace xa1_ := cell_keep xa1_ hz172
      replace xb1_ := cell_keep xb1_ hz172
      replace xa2_ := cell_keep xa2_ hz172
      replace xb2_ := cell_keep xb2_ hz172
      replace xa3_ := cell_keep xa3_ hz172
      replace xb3_ := cell_keep xb3_ hz172
      clear hc171 hz172
      rcases Bool.eq_false_or_eq_true (staOf t4a) with hq188 | hq188
      · have EQ188 := hid hq188
        clear hq188
        rcases Bool.eq_false_or_eq_true (staOf t7a) with hq204 | hq204
        · have EQ204 := hid hq204
          clear hq204
          have EQ206 := hid (show depOf (.mk 4 [t4a, t7a]) = depOf t4a + 1 from (by have h := parts_dep t4a t7a EQ19.out; rw [h]; congr 1; first | rw [if_pos (by omega)] | rw [if_neg (by omega)]))
          have XW209 : IntKind.i64.wrap (depOf t4a + 1) = depOf t4a + 1 := IntWalk.i64_in _ (by omega)
          have EQ210 := hid (show anyOf (.mk 4 [t4a, t7a]) = anyOf t4a + anyOf t7a from parts_any t4a t7a EQ19.out)
          have XF213 := any_bd t4a
          have XF216 := any_bd t7a
          have XW219 : IntKind.i64.wrap (anyOf t4a + anyOf t7a) = anyOf t4a + anyOf t7a := IntWalk.i64_in _ (by omega)
          have EQ220 := hid (show staOf (.mk 4 [t4a, t7a]) = true from (by rw [parts_sta t4a t7a EQ19.out, EQ188.out, EQ204.out]; rfl))
          go_wp2_with fail
          refine wp_region_held_drew (S := (fun w' => Below (z172).heap.size (z172) w' ∧ w'.cell? ⟨z4.heap.size, 0, none⟩ = some (.int .i64 k4a) ∧ w'.cell? ⟨z4.heap.size, 1, none⟩ = some (.slice a4a n4a c4a) ∧ w'.cell? ⟨z7.heap.size, 0, none⟩ = some (.int .i64 k7a) ∧ w'.cell? ⟨z7.heap.size, 1, none⟩ = some (.slice a7a n7a c7a) ∧ w'.cell? ⟨z7.heap.size + 1 + 1, 0, none⟩ = some (.int .i64 4) ∧ w'.cell? ⟨z7.heap.size + 1 + 1, 1, none⟩ = some (.slice (some ⟨z7.heap.size + 1, 0, none⟩) 2 2))) (by kernel_rfl) ?_ (fun hS0 => ?_)
          · (refine (fun hB => ⟨hB, cell_keep xa1_ hB, cell_keep xb1_ hB, cell_keep xa2_ hB, cell_keep xb2_ hB, cell_keep xa3_ hB, cell_keep xb3_ hB⟩ : Below (z172).heap.size (z172) _ → _) ?_; exact below_drew _)
          refine regTake (i := 0) (v := ?vg205_0) rfl (by kernel_rfl) (by kernel_rfl) (by kernel_rfl) (fun _ _ _ h => h) (Or.inl ⟨by rfl, ?hyg205_0⟩) (by assumption) ?_
          case hyg205_0 => (intro w hSw; (try dsimp only at hSw); go_simp; (try with_reducible rfl))
          try simp only [Act.put, List.setIfInBounds_toArray, List.set_cons_zero, List.set_cons_succ]
          refine regTake (i := 2) (v := ?vg205_2) rfl (by kernel_rfl) (by kernel_rfl) (by kernel_rfl) (fun _ _ _ h => h) (Or.inl ⟨by rfl, ?hyg205_2⟩) (by assumption) ?_
          case hyg205_2 => (intro w hSw; (try dsimp only at hSw); go_simp; (try with_reducible rfl))
          try simp only [Act.put, List.setIfInBounds_toArray, List.set_cons_zero, List.set_cons_succ]
          refine regTake (i := 3) (v := ?vg205_3) rfl (by kernel_rfl) (by kernel_rfl) (by kernel_rfl) (fun _ _ _ h => h) (Or.inl ⟨by rfl, ?hyg205_3⟩) (by assumption) ?_
          case hyg205_3 => (intro w hSw; (try dsimp only at hSw); go_simp; (try with_reducible rfl))
          try simp only [Act.put, List.setIfInBounds_toArray, List.set_cons_zero, List.set_cons_succ]
          refine wpAnyH_ready (rs := [1]) (by kernel_rfl) (by simp) ?_
          refine regCons rfl (fun K hK => ?_)
          go_simp
          have hc207 := implTypeDepth (.mk 4 [t4a, t7a]) _ _ _ (HAL10.out.below (below_trans hq172 (below_drew (z172)))) (by have := HCL10.out; omega)
          rw [EQ206.out] at hc207
          refine hc207.mono ?_
          rintro e yg205_0 ⟨rfl, hyg205_0⟩
          have hkg205_0 := below_trans (below_drew (z172)) hyg205_0
          clear hc207
          refine hK.out _ _ ?_ (fun hS1 => ?_)
          · (refine (fun hB => ⟨hB, cell_keep xa1_ hB, cell_keep xb1_ hB, cell_keep xa2_ hB, cell_keep xb2_ hB, cell_keep xa3_ hB, cell_keep xb3_ hB⟩ : Below (z172).heap.size (z172) _ → _) ?_; exact hkg205_0)
          clear hK K hS0
          try simp only [Act.put, List.setIfInBounds_toArray, List.set_cons_zero, List.set_cons_succ]
          refine regTake (i := 4) (v := ?vg205_4) rfl (by kernel_rfl) (by kernel_rfl) (by kernel_rfl) (fun _ _ _ h => h) (Or.inl ⟨by rfl, ?hyg205_4⟩) (by assumption) ?_
          case hyg205_4 => (intro w hSw; (try dsimp only at hSw); go_simp; (try with_reducible rfl))
          try simp only [Act.put, List.setIfInBounds_toArray, List.set_cons_zero, List.set_cons_succ]
          refine regTake (i := 5) (v := ?vg205_5) rfl (by kernel_rfl) (by kernel_rfl) (by kernel_rfl) (fun _ _ _ h => h) (Or.inl ⟨by rfl, ?hyg205_5⟩) (by assumption) ?_
          case hyg205_5 => (intro w hSw; (try dsimp only at hSw); go_simp; (try with_reducible rfl))
          try simp only [Act.put, List.setIfInBounds_toArray, List.set_cons_zero, List.set_cons_succ]
          refine regTake (i := 6) (v := ?vg205_6) rfl (by kernel_rfl) (by kernel_rfl) (by kernel_rfl) (fun _ _ _ h => h) (Or.inl ⟨by rfl, ?hyg205_6⟩) (by assumption) ?_
          case hyg205_6 => (intro w hSw; (try dsimp only at hSw); go_simp; (try with_reducible rfl))
          try simp only [Act.put, List.setIfInBounds_toArray, List.set_cons_zero, List.set_cons_succ]
          refine regTake (i := 8) (v := ?vg205_8) rfl (by kernel_rfl) (by kernel_rfl) (by kernel_rfl) (fun _ _ _ h => h) (Or.inl ⟨by rfl, ?hyg205_8⟩) (by assumption) ?_
          case hyg205_8 => (intro w hSw; (try dsimp only at hSw); go_simp; (try with_reducible rfl))
          try simp only [Act.put, List.setIfInBounds_toArray, List.set_cons_zero, List.set_cons_succ]
          refine regTake (i := 10) (v := ?vg205_10) rfl (by kernel_rfl) (by kernel_rfl) (by kernel_rfl) (fun _ _ _ h => h) (Or.inl ⟨by rfl, ?hyg205_10⟩) (by assumption) ?_
          case hyg205_10 => (intro w hSw; (try dsimp only at hSw); go_simp; (try with_reducible rfl))
          try simp only [Act.put, List.setIfInBounds_toArray, List.set_cons_zero, List.set_cons_succ]
          refine wpAnyH_ready (rs := [7]) (by kernel_rfl) (by simp) ?_
          refine regCons rfl (fun K hK => ?_)
          go_simp
          have hc211 := implCountAny (.mk 4 [t4a, t7a]) _ _ _ (HAL10.out.below (below_trans hq172 (hkg205_0))) (by have := HCL10.out; omega)
          rw [EQ210.out] at hc211
          refine hc211.mono ?_
          rintro e yg205_1 ⟨rfl, hyg205_1⟩
          have hkg205_1 := below_trans (hkg205_0) hyg205_1
          clear hc211
          refine hK.out _ _ ?_ (fun hS2 => ?_)
          · (refine (fun hB => ⟨hB, cell_keep xa1_ hB, cell_keep xb1_ hB, cell_keep xa2_ hB, cell_keep xb2_ hB, cell_keep xa3_ hB, cell_keep xb3_ hB⟩ : Below (z172).heap.size (z172) _ → _) ?_; exact hkg205_1)
          clear hK K hS1
          try simp only [Act.put, List.setIfInBounds_toArray, List.set_cons_zero, List.set_cons_succ]
          refine wpAnyH_ready (rs := [9]) (by kernel_rfl) (by simp) ?_
          refine regCons rfl (fun K hK => ?_)
          go_simp
          have hc214 := implCountAny t4a _ _ _ (HA4a.out.below (below_trans hq172 (hkg205_1))) (by have := HC4a.out; omega)
          refine hc214.mono ?_
          rintro e yg205_2 ⟨rfl, hyg205_2⟩
          have hkg205_2 := below_trans (hkg205_1) hyg205_2
          clear hc214
          refine hK.out _ _ ?_ (fun hS3 => ?_)
          · (refine (fun hB => ⟨hB, cell_keep xa1_ hB, cell_keep xb1_ hB, cell_keep xa2_ hB, cell_keep xb2_ hB, cell_keep xa3_ hB, cell_keep xb3_ hB⟩ : Below (z172).heap.size (z172) _ → _) ?_; exact hkg205_2)
          clear hK K hS2
          try simp only [Act.put, List.setIfInBounds_toArray, List.set_cons_zero, List.set_cons_succ]
          refine wpAnyH_ready (rs := [11]) (by kernel_rfl) (by simp) ?_
          refine regCons rfl (fun K hK => ?_)
          go_simp
          have hc217 := implCountAny t7a _ _ _ (HA7a.out.below (below_trans hq172 (hkg205_2))) (by have := HC7a.out; omega)
          refine hc217.mono ?_
          rintro e yg205_3 ⟨rfl, hyg205_3⟩
          have hkg205_3 := below_trans (hkg205_2) hyg205_3
          clear hc217
          refine hK.out _ _ ?_ (fun hS4 => ?_)
          · (refine (fun hB => ⟨hB, cell_keep xa1_ hB, cell_keep xb1_ hB, cell_keep xa2_ hB, cell_keep xb2_ hB, cell_keep xa3_ hB, cell_keep xb3_ hB⟩ : Below (z172).heap.size (z172) _ → _) ?_; exact hkg205_3)
          clear hK K hS3
          try simp only [Act.put, List.setIfInBounds_toArray, List.set_cons_zero, List.set_cons_succ]
          refine regTake (i := 12) (v := ?vg205_12) rfl (by kernel_rfl) (by kernel_rfl) (by kernel_rfl) (fun _ _ _ h => h) (Or.inl ⟨by rfl, ?hyg205_12⟩) (by assumption) ?_
          case hyg205_12 => (intro w hSw; (try dsimp only at hSw); go_simp; (try with_reducible rfl))
          try simp only [Act.put, List.setIfInBounds_toArray, List.set_cons_zero, List.set_cons_succ]
          refine regTake (i := 13) (v := ?vg205_13) rfl (by kernel_rfl) (by kernel_rfl) (by kernel_rfl) (fun _ _ _ h => h) (Or.inl ⟨by rfl, ?hyg205_13⟩) (by assumption) ?_
          case hyg205_13 => (intro w hSw; (try dsimp only at hSw); go_simp; (try with_reducible rfl))
          try simp only [Act.put, List.setIfInBounds_toArray, List.set_cons_zero, List.set_cons_succ]
          refine regTake (i := 14) (v := .bool true) rfl (by kernel_rfl) (by kernel_rfl) (by kernel_rfl) (fun _ _ _ h => h) (Or.inl ⟨by rfl, ?hyg205_14⟩) (by assumption) ?_
          case hyg205_14 => (intro w hSw; (try dsimp only at hSw); go_simp; (try with_reducible rfl))
          try simp only [Act.put, List.setIfInBounds_toArray, List.set_cons_zero, List.set_cons_succ]
          refine regTake (i := 15) (v := ?vg205_15) rfl (by kernel_rfl) (by kernel_rfl) (by kernel_rfl) (fun _ _ _ h => h) (Or.inl ⟨by rfl, ?hyg205_15⟩) (by assumption) ?_
          case hyg205_15 => (intro w hSw; (try dsimp only at hSw); go_simp; (try with_reducible rfl))
          try simp only [Act.put, List.setIfInBounds_toArray, List.set_cons_zero, List.set_cons_succ]
          refine regTake (i := 16) (v := ?vg205_16) rfl (by kernel_rfl) (by kernel_rfl) (by kernel_rfl) (fun _ _ _ h => h) (Or.inl ⟨by rfl, ?hyg205_16⟩) (by assumption) ?_
          case hyg205_16 => (intro w hSw; (try dsimp only at hSw); go_simp; (try with_reducible rfl))
          try simp only [Act.put, List.setIfInBounds_toArray, List.set_cons_zero, List.set_cons_succ]
          refine regTake (i := 18) (v := ?vg205_18) rfl (by kernel_rfl) (by kernel_rfl) (by kernel_rfl) (fun _ _ _ h => h) (Or.inl ⟨by rfl, ?hyg205_18⟩) (by assumption) ?_
          case hyg205_18 => (intro w hSw; (try dsimp only at hSw); go_simp; (try with_reducible rfl))
          try simp only [Act.put, List.setIfInBounds_toArray, List.set_cons_zero, List.set_cons_succ]
          refine wpAnyH_ready (rs := [17]) (by kernel_rfl) (by simp) ?_
          refine regCons rfl (fun K hK => ?_)
          go_simp
          have hc221 := implIsStatic (.mk 4 [t4a, t7a]) _ _ _ (HAL10.out.below (below_trans hq172 (hkg205_3))) (by have := HCL10.out; omega)
          rw [EQ220.out] at hc221
          refine hc221.mono ?_
          rintro e yg205_4 ⟨rfl, hyg205_4⟩
          have hkg205_4 := below_trans (hkg205_3) hyg205_4
          clear hc221
          refine hK.out _ _ ?_ (fun hS5 => ?_)
          · (refine (fun hB => ⟨hB, cell_keep xa1_ hB, cell_keep xb1_ hB, cell_keep xa2_ hB, cell_keep xb2_ hB, cell_keep xa3_ hB, cell_keep xb3_ hB⟩ : Below (z172).heap.size (z172) _ → _) ?_; exact hkg205_4)
          clear hK K hS4
          try simp only [Act.put, List.setIfInBounds_toArray, List.set_cons_zero, List.set_cons_succ]
          refine wpAnyH_ready (rs := [19]) (by kernel_rfl) (by simp) ?_
          refine regCons rfl (fun K hK => ?_)
          go_simp
          have hc223 := implIsStatic t4a _ _ _ (HA4a.out.below (below_trans hq172 (hkg205_4))) (by have := HC4a.out; omega)
          rw [EQ188.out] at hc223
          refine hc223.mono ?_
          rintro e yg205_5 ⟨rfl, hyg205_5⟩
          have hkg205_5 := below_trans (hkg205_4) hyg205_5
          clear hc223
          refine hK.out _ _ ?_ (fun hS6 => ?_)
          · (refine (fun hB => ⟨hB, cell_keep xa1_ hB, cell_keep xb1_ hB, cell_keep xa2_ hB, cell_keep xb2_ hB, cell_keep xa3_ hB, cell_keep xb3_ hB⟩ : Below (z172).heap.size (z172) _ → _) ?_; exact hkg205_5)
          clear hK K hS5
          try simp only [Act.put, List.setIfInBounds_toArray, List.set_cons_zero, List.set_cons_succ]
          refine regTake (i := 20) (v := ?vg205_20) rfl (by kernel_rfl) (by kernel_rfl) (by kernel_rfl) (fun _ _ _ h => h) (Or.inl ⟨by rfl, ?hyg205_20⟩) (by assumption) ?_
          case hyg205_20 => (intro w hSw; (try dsimp only at hSw); go_simp; (try with_reducible rfl))
          try simp only [Act.put, List.setIfInBounds_toArray, List.set_cons_zero, List.set_cons_succ]
          refine regTake (i := 21) (v := ?vg205_21) rfl (by kernel_rfl) (by kernel_rfl) (by kernel_rfl) (fun _ _ _ h => h) (Or.inl ⟨by rfl, ?hyg205_21⟩) (by assumption) ?_
          case hyg205_21 => (intro w hSw; (try dsimp only at hSw); go_simp; (try with_reducible rfl))
          try simp only [Act.put, List.setIfInBounds_toArray, List.set_cons_zero, List.set_cons_succ]
          refine wpAnyH_ready (rs := [22]) (by kernel_rfl) (by simp) ?_
          refine regCons rfl (fun K hK => ?_)
          go_simp
          have hc225 := implIsStatic t7a _ _ _ (HA7a.out.below (below_trans hq172 (hkg205_5))) (by have := HC7a.out; omega)
          rw [EQ204.out] at hc225
          refine hc225.mono ?_
          rintro e yg205_6 ⟨rfl, hyg205_6⟩
          have hkg205_6 := below_trans (hkg205_5) hyg205_6
          clear hc225
          refine hK.out _ _ ?_ (fun hS7 => ?_)
          · (refine (fun hB => ⟨hB, cell_keep xa1_ hB, cell_keep xb1_ hB, cell_keep xa2_ hB, cell_keep xb2_ hB, cell_keep xa3_ hB, cell_keep xb3_ hB⟩ : Below (z172).heap.size (z172) _ → _) ?_; exact hkg205_6)
          clear hK K hS6
          try simp only [Act.put, List.setIfInBounds_toArray, List.set_cons_zero, List.set_cons_succ]
          refine regTake (i := 23) (v := .bool true) rfl (by kernel_rfl) (by kernel_rfl) (by kernel_rfl) (fun _ _ _ h => h) (Or.inl ⟨by rfl, ?hyg205_23⟩) (by assumption) ?_
          case hyg205_23 => (intro w hSw; (try dsimp only at hSw); go_simp; (try with_reducible rfl))
          try simp only [Act.put, List.setIfInBounds_toArray, List.set_cons_zero, List.set_cons_succ]
          refine regTake (i := 24) (v := ?vg205_24) rfl (by kernel_rfl) (by kernel_rfl) (by kernel_rfl) (fun _ _ _ h => h) (Or.inl ⟨by rfl, ?hyg205_24⟩) (by assumption) ?_
          case hyg205_24 => (intro w hSw; (try dsimp only at hSw); go_simp; (try with_reducible rfl))
          try simp only [Act.put, List.setIfInBounds_toArray, List.set_cons_zero, List.set_cons_succ]
          refine regTake (i := 25) (v := .bool true) rfl (by kernel_rfl) (by kernel_rfl) (by kernel_rfl) (fun _ _ _ h => h) (Or.inl ⟨by rfl, ?hyg205_25⟩) (by assumption) ?_
          case hyg205_25 => (intro w hSw; (try dsimp only at hSw); go_simp; (try with_reducible rfl))
          try simp only [Act.put, List.setIfInBounds_toArray, List.set_cons_zero, List.set_cons_succ]
          refine regTake (i := 26) (v := ?vg205_26) rfl (by kernel_rfl) (by kernel_rfl) (by kernel_rfl) (fun _ _ _ h => h) (Or.inl ⟨by rfl, ?hyg205_26⟩) (by assumption) ?_
          case hyg205_26 => (intro w hSw; (try dsimp only at hSw); go_simp; (try with_reducible rfl))
          try simp only [Act.put, List.setIfInBounds_toArray, List.set_cons_zero, List.set_cons_succ]
          refine wpAnyH_done (by kernel_rfl) ?_ _
          have hlg205_ := below_trans hq172 hkg205_6
          replace xa1_ := cell_keep xa1_ hkg205_6
          replace xb1_ := cell_keep xb1_ hkg205_6
          replace xa2_ := cell_keep xa2_ hkg205_6
          replace xb2_ := cell_keep xb2_ hkg205_6
          replace xa3_ := cell_keep xa3_ hkg205_6
          replace xb3_ := cell_keep xb3_ hkg205_6
          go_wp2_with fail
          go_ret
          exact ⟨rfl, below_trans HBL.out hlg205_⟩
        · have EQ204 := hid hq204
          clear hq204
          have EQ228 := hid (show depOf (.mk 4 [t4a, t7a]) = depOf t4a + 1 from (by have h := parts_dep t4a t7a EQ19.out; rw [h]; congr 1; first | rw [if_pos (by omega)] | rw [if_neg (by omega)]))
          have XW231 : IntKind.i64.wrap (depOf t4a + 1) = depOf t4a + 1 := IntWalk.i64_in _ (by omega)
          have EQ232 := hid (show anyOf (.mk 4 [t4a, t7a]) = anyOf t4a + anyOf t7a from parts_any t4a t7a EQ19.out)
          have XF235 := any_bd t4a
          have XF238 := any_bd t7a
          have XW241 : IntKind.i64.wrap (anyOf t4a + anyOf t7a) = anyOf t4a + anyOf t7a := IntWalk.i64_in _ (by omega)
          have EQ242 := hid (show staOf (.mk 4 [t4a, t7a]) = false from (by rw [parts_sta t4a t7a EQ19.out, EQ188.out, EQ204.out]; rfl))
          go_wp2_with fail
          refine wp_region_held_drew (S := (fun w' => Below (z172).heap.size (z172) w' ∧ w'.cell? ⟨z4.heap.size, 0, none⟩ = some (.int .i64 k4a) ∧ w'.cell? ⟨z4.heap.size, 1, none⟩ = some (.slice a4a n4a c4a) ∧ w'.cell? ⟨z7.heap.size, 0, none⟩ = some (.int .i64 k7a) ∧ w'.cell? ⟨z7.heap.size, 1, none⟩ = some (.slice a7a n7a c7a) ∧ w'.cell? ⟨z7.heap.size + 1 + 1, 0, none⟩ = some (.int .i64 4) ∧ w'.cell? ⟨z7.heap.size + 1 + 1, 1, none⟩ = some (.slice (some ⟨z7.heap.size + 1, 0, none⟩) 2 2))) (by kernel_rfl) ?_ (fun hS0 => ?_)
          · (refine (fun hB => ⟨hB, cell_keep xa1_ hB, cell_keep xb1_ hB, cell_keep xa2_ hB, cell_keep xb2_ hB, cell_keep xa3_ hB, cell_keep xb3_ hB⟩ : Below (z172).heap.size (z172) _ → _) ?_; exact below_drew _)
          refine regTake (i := 0) (v := ?vg227_0) rfl (by kernel_rfl) (by kernel_rfl) (by kernel_rfl) (fun _ _ _ h => h) (Or.inl ⟨by rfl, ?hyg227_0⟩) (by assumption) ?_
          case hyg227_0 => (intro w hSw; (try dsimp only at hSw); go_simp; (try with_reducible rfl))
          try simp only [Act.put, List.setIfInBounds_toArray, List.set_cons_zero, List.set_cons_succ]
          refine regTake (i := 2) (v := ?vg227_2) rfl (by kernel_rfl) (by kernel_rfl) (by kernel_rfl) (fun _ _ _ h => h) (Or.inl ⟨by rfl, ?hyg227_2⟩) (by assumption) ?_
          case hyg227_2 => (intro w hSw; (try dsimp only at hSw); go_simp; (try with_reducible rfl))
          try simp only [Act.put, List.setIfInBounds_toArray, List.set_cons_zero, List.set_cons_succ]
          refine regTake (i := 3) (v := ?vg227_3) rfl (by kernel_rfl) (by kernel_rfl) (by kernel_rfl) (fun _ _ _ h => h) (Or.inl ⟨by rfl, ?hyg227_3⟩) (by assumption) ?_
          case hyg227_3 => (intro w hSw; (try dsimp only at hSw); go_simp; (try with_reducible rfl))
          try simp only [Act.put, List.setIfInBounds_toArray, List.set_cons_zero, List.set_cons_succ]
          refine wpAnyH_ready (rs := [1]) (by kernel_rfl) (by simp) ?_
          refine regCons rfl (fun K hK => ?_)
          go_simp
          have hc229 := implTypeDepth (.mk 4 [t4a, t7a]) _ _ _ (HAL10.out.below (below_trans hq172 (below_drew (z172)))) (by have := HCL10.out; omega)
          rw [EQ228.out] at hc229
          refine hc229.mono ?_
          rintro e yg227_0 ⟨rfl, hyg227_0⟩
          have hkg227_0 := below_trans (below_drew (z172)) hyg227_0
          clear hc229
          refine hK.out _ _ ?_ (fun hS1 => ?_)
          · (refine (fun hB => ⟨hB, cell_keep xa1_ hB, cell_keep xb1_ hB, cell_keep xa2_ hB, cell_keep xb2_ hB, cell_keep xa3_ hB, cell_keep xb3_ hB⟩ : Below (z172).heap.size (z172) _ → _) ?_; exact hkg227_0)
          clear hK K hS0
          try simp only [Act.put, List.setIfInBounds_toArray, List.set_cons_zero, List.set_cons_succ]
          refine regTake (i := 4) (v := ?vg227_4) rfl (by kernel_rfl) (by kernel_rfl) (by kernel_rfl) (fun _ _ _ h => h) (Or.inl ⟨by rfl, ?hyg227_4⟩) (by assumption) ?_
          case hyg227_4 => (intro w hSw; (try dsimp only at hSw); go_simp; (try with_reducible rfl))
          try simp only [Act.put, List.setIfInBounds_toArray, List.set_cons_zero, List.set_cons_succ]
          refine regTake (i := 5) (v := ?vg227_5) rfl (by kernel_rfl) (by kernel_rfl) (by kernel_rfl) (fun _ _ _ h => h) (Or.inl ⟨by rfl, ?hyg227_5⟩) (by assumption) ?_
          case hyg227_5 => (intro w hSw; (try dsimp only at hSw); go_simp; (try with_reducible rfl))
          try simp only [Act.put, List.setIfInBounds_toArray, List.set_cons_zero, List.set_cons_succ]
          refine regTake (i := 6) (v := ?vg227_6) rfl (by kernel_rfl) (by kernel_rfl) (by kernel_rfl) (fun _ _ _ h => h) (Or.inl ⟨by rfl, ?hyg227_6⟩) (by assumption) ?_
          case hyg227_6 => (intro w hSw; (try dsimp only at hSw); go_simp; (try with_reducible rfl))
          try simp only [Act.put, List.setIfInBounds_toArray, List.set_cons_zero, List.set_cons_succ]
          refine regTake (i := 8) (v := ?vg227_8) rfl (by kernel_rfl) (by kernel_rfl) (by kernel_rfl) (fun _ _ _ h => h) (Or.inl ⟨by rfl, ?hyg227_8⟩) (by assumption) ?_
          case hyg227_8 => (intro w hSw; (try dsimp only at hSw); go_simp; (try with_reducible rfl))
          try simp only [Act.put, List.setIfInBounds_toArray, List.set_cons_zero, List.set_cons_succ]
          refine regTake (i := 10) (v := ?vg227_10) rfl (by kernel_rfl) (by kernel_rfl) (by kernel_rfl) (fun _ _ _ h => h) (Or.inl ⟨by rfl, ?hyg227_10⟩) (by assumption) ?_
          case hyg227_10 => (intro w hSw; (try dsimp only at hSw); go_simp; (try with_reducible rfl))
          try simp only [Act.put, List.setIfInBounds_toArray, List.set_cons_zero, List.set_cons_succ]
          refine wpAnyH_ready (rs := [7]) (by kernel_rfl) (by simp) ?_
          refine regCons rfl (fun K hK => ?_)
          go_simp
          have hc233 := implCountAny (.mk 4 [t4a, t7a]) _ _ _ (HAL10.out.below (below_trans hq172 (hkg227_0))) (by have := HCL10.out; omega)
          rw [EQ232.out] at hc233
          refine hc233.mono ?_
          rintro e yg227_1 ⟨rfl, hyg227_1⟩
          have hkg227_1 := below_trans (hkg227_0) hyg227_1
          clear hc233
          refine hK.out _ _ ?_ (fun hS2 => ?_)
          · (refine (fun hB => ⟨hB, cell_keep xa1_ hB, cell_keep xb1_ hB, cell_keep xa2_ hB, cell_keep xb2_ hB, cell_keep xa3_ hB, cell_keep xb3_ hB⟩ : Below (z172).heap.size (z172) _ → _) ?_; exact hkg227_1)
          clear hK K hS1
          try simp only [Act.put, List.setIfInBounds_toArray, List.set_cons_zero, List.set_cons_succ]
          refine wpAnyH_ready (rs := [9]) (by kernel_rfl) (by simp) ?_
          refine regCons rfl (fun K hK => ?_)
          go_simp
          have hc236 := implCountAny t4a _ _ _ (HA4a.out.below (below_trans hq172 (hkg227_1))) (by have := HC4a.out; omega)
          refine hc236.mono ?_
          rintro e yg227_2 ⟨rfl, hyg227_2⟩
          have hkg227_2 := below_trans (hkg227_1) hyg227_2
          clear hc236
          refine hK.out _ _ ?_ (fun hS3 => ?_)
          · (refine (fun hB => ⟨hB, cell_keep xa1_ hB, cell_keep xb1_ hB, cell_keep xa2_ hB, cell_keep xb2_ hB, cell_keep xa3_ hB, cell_keep xb3_ hB⟩ : Below (z172).heap.size (z172) _ → _) ?_; exact hkg227_2)
          clear hK K hS2
          try simp only [Act.put, List.setIfInBounds_toArray, List.set_cons_zero, List.set_cons_succ]
          refine wpAnyH_ready (rs := [11]) (by kernel_rfl) (by simp) ?_
          refine regCons rfl (fun K hK => ?_)
          go_simp
          have hc239 := implCountAny t7a _ _ _ (HA7a.out.below (below_trans hq172 (hkg227_2))) (by have := HC7a.out; omega)
          refine hc239.mono ?_
          rintro e yg227_3 ⟨rfl, hyg227_3⟩
          have hkg227_3 := below_trans (hkg227_2) hyg227_3
          clear hc239
          refine hK.out _ _ ?_ (fun hS4 => ?_)
          · (refine (fun hB => ⟨hB, cell_keep xa1_ hB, cell_keep xb1_ hB, cell_keep xa2_ hB, cell_keep xb2_ hB, cell_keep xa3_ hB, cell_keep xb3_ hB⟩ : Below (z172).heap.size (z172) _ → _) ?_; exact hkg227_3)
          clear hK K hS3
          try simp only [Act.put, List.setIfInBounds_toArray, List.set_cons_zero, List.set_cons_succ]
          refine regTake (i := 12) (v := ?vg227_12) rfl (by kernel_rfl) (by kernel_rfl) (by kernel_rfl) (fun _ _ _ h => h) (Or.inl ⟨by rfl, ?hyg227_12⟩) (by assumption) ?_
          case hyg227_12 => (intro w hSw; (try dsimp only at hSw); go_simp; (try with_reducible rfl))
          try simp only [Act.put, List.setIfInBounds_toArray, List.set_cons_zero, List.set_cons_succ]
          refine regTake (i := 13) (v := ?vg227_13) rfl (by kernel_rfl) (by kernel_rfl) (by kernel_rfl) (fun _ _ _ h => h) (Or.inl ⟨by rfl, ?hyg227_13⟩) (by assumption) ?_
          case hyg227_13 => (intro w hSw; (try dsimp only at hSw); go_simp; (try with_reducible rfl))
          try simp only [Act.put, List.setIfInBounds_toArray, List.set_cons_zero, List.set_cons_succ]
          refine regTake (i := 14) (v := .bool true) rfl (by kernel_rfl) (by kernel_rfl) (by kernel_rfl) (fun _ _ _ h => h) (Or.inl ⟨by rfl, ?hyg227_14⟩) (by assumption) ?_
          case hyg227_14 => (intro w hSw; (try dsimp only at hSw); go_simp; (try with_reducible rfl))
          try simp only [Act.put, List.setIfInBounds_toArray, List.set_cons_zero, List.set_cons_succ]
          refine regTake (i := 15) (v := ?vg227_15) rfl (by kernel_rfl) (by kernel_rfl) (by kernel_rfl) (fun _ _ _ h => h) (Or.inl ⟨by rfl, ?hyg227_15⟩) (by assumption) ?_
          case hyg227_15 => (intro w hSw; (try dsimp only at hSw); go_simp; (try with_reducible rfl))
          try simp only [Act.put, List.setIfInBounds_toArray, List.set_cons_zero, List.set_cons_succ]
          refine regTake (i := 16) (v := ?vg227_16) rfl (by kernel_rfl) (by kernel_rfl) (by kernel_rfl) (fun _ _ _ h => h) (Or.inl ⟨by rfl, ?hyg227_16⟩) (by assumption) ?_
          case hyg227_16 => (intro w hSw; (try dsimp only at hSw); go_simp; (try with_reducible rfl))
          try simp only [Act.put, List.setIfInBounds_toArray, List.set_cons_zero, List.set_cons_succ]
          refine regTake (i := 18) (v := ?vg227_18) rfl (by kernel_rfl) (by kernel_rfl) (by kernel_rfl) (fun _ _ _ h => h) (Or.inl ⟨by rfl, ?hyg227_18⟩) (by assumption) ?_
          case hyg227_18 => (intro w hSw; (try dsimp only at hSw); go_simp; (try with_reducible rfl))
          try simp only [Act.put, List.setIfInBounds_toArray, List.set_cons_zero, List.set_cons_succ]
          refine wpAnyH_ready (rs := [17]) (by kernel_rfl) (by simp) ?_
          refine regCons rfl (fun K hK => ?_)
          go_simp
          have hc243 := implIsStatic (.mk 4 [t4a, t7a]) _ _ _ (HAL10.out.below (below_trans hq172 (hkg227_3))) (by have := HCL10.out; omega)
          rw [EQ242.out] at hc243
          refine hc243.mono ?_
          rintro e yg227_4 ⟨rfl, hyg227_4⟩
          have hkg227_4 := below_trans (hkg227_3) hyg227_4
          clear hc243
          refine hK.out _ _ ?_ (fun hS5 => ?_)
          · (refine (fun hB => ⟨hB, cell_keep xa1_ hB, cell_keep xb1_ hB, cell_keep xa2_ hB, cell_keep xb2_ hB, cell_keep xa3_ hB, cell_keep xb3_ hB⟩ : Below (z172).heap.size (z172) _ → _) ?_; exact hkg227_4)
          clear hK K hS4
          try simp only [Act.put, List.setIfInBounds_toArray, List.set_cons_zero, List.set_cons_succ]
          refine wpAnyH_ready (rs := [19]) (by kernel_rfl) (by simp) ?_
          refine regCons rfl (fun K hK => ?_)
          go_simp
          have hc245 := implIsStatic t4a _ _ _ (HA4a.out.below (below_trans hq172 (hkg227_4))) (by have := HC4a.out; omega)
          rw [EQ188.out] at hc245
          refine hc245.mono ?_
          rintro e yg227_5 ⟨rfl, hyg227_5⟩
          have hkg227_5 := below_trans (hkg227_4) hyg227_5
          clear hc245
          refine hK.out _ _ ?_ (fun hS6 => ?_)
          · (refine (fun hB => ⟨hB, cell_keep xa1_ hB, cell_keep xb1_ hB, cell_keep xa2_ hB, cell_keep xb2_ hB, cell_keep xa3_ hB, cell_keep xb3_ hB⟩ : Below (z172).heap.size (z172) _ → _) ?_; exact hkg227_5)
          clear hK K hS5
          try simp only [Act.put, List.setIfInBounds_toArray, List.set_cons_zero, List.set_cons_succ]
          refine regTake (i := 20) (v := ?vg227_20) rfl (by kernel_rfl) (by kernel_rfl) (by kernel_rfl) (fun _ _ _ h => h) (Or.inl ⟨by rfl, ?hyg227_20⟩) (by assumption) ?_
          case hyg227_20 => (intro w hSw; (try dsimp only at hSw); go_simp; (try with_reducible rfl))
          try simp only [Act.put, List.setIfInBounds_toArray, List.set_cons_zero, List.set_cons_succ]
          refine regTake (i := 21) (v := ?vg227_21) rfl (by kernel_rfl) (by kernel_rfl) (by kernel_rfl) (fun _ _ _ h => h) (Or.inl ⟨by rfl, ?hyg227_21⟩) (by assumption) ?_
          case hyg227_21 => (intro w hSw; (try dsimp only at hSw); go_simp; (try with_reducible rfl))
          try simp only [Act.put, List.setIfInBounds_toArray, List.set_cons_zero, List.set_cons_succ]
          refine wpAnyH_ready (rs := [22]) (by kernel_rfl) (by simp) ?_
          refine regCons rfl (fun K hK => ?_)
          go_simp
          have hc247 := implIsStatic t7a _ _ _ (HA7a.out.below (below_trans hq172 (hkg227_5))) (by have := HC7a.out; omega)
          rw [EQ204.out] at hc247
          refine hc247.mono ?_
          rintro e yg227_6 ⟨rfl, hyg227_6⟩
          have hkg227_6 := below_trans (hkg227_5) hyg227_6
          clear hc247
          refine hK.out _ _ ?_ (fun hS7 => ?_)
          · (refine (fun hB => ⟨hB, cell_keep xa1_ hB, cell_keep xb1_ hB, cell_keep xa2_ hB, cell_keep xb2_ hB, cell_keep xa3_ hB, cell_keep xb3_ hB⟩ : Below (z172).heap.size (z172) _ → _) ?_; exact hkg227_6)
          clear hK K hS6
          try simp only [Act.put, List.setIfInBounds_toArray, List.set_cons_zero, List.set_cons_succ]
          refine regTake (i := 23) (v := .bool false) rfl (by kernel_rfl) (by kernel_rfl) (by kernel_rfl) (fun _ _ _ h => h) (Or.inl ⟨by rfl, ?hyg227_23⟩) (by assumption) ?_
          case hyg227_23 => (intro w hSw; (try dsimp only at hSw); go_simp; (try with_reducible rfl))
          try simp only [Act.put, List.setIfInBounds_toArray, List.set_cons_zero, List.set_cons_succ]
          refine regTake (i := 24) (v := ?vg227_24) rfl (by kernel_rfl) (by kernel_rfl) (by kernel_rfl) (fun _ _ _ h => h) (Or.inl ⟨by rfl, ?hyg227_24⟩) (by assumption) ?_
          case hyg227_24 => (intro w hSw; (try dsimp only at hSw); go_simp; (try with_reducible rfl))
          try simp only [Act.put, List.setIfInBounds_toArray, List.set_cons_zero, List.set_cons_succ]
          refine regTake (i := 25) (v := .bool true) rfl (by kernel_rfl) (by kernel_rfl) (by kernel_rfl) (fun _ _ _ h => h) (Or.inl ⟨by rfl, ?hyg227_25⟩) (by assumption) ?_
          case hyg227_25 => (intro w hSw; (try dsimp only at hSw); go_simp; (try with_reducible rfl))
          try simp only [Act.put, List.setIfInBounds_toArray, List.set_cons_zero, List.set_cons_succ]
          refine regTake (i := 26) (v := ?vg227_26) rfl (by kernel_rfl) (by kernel_rfl) (by kernel_rfl) (fun _ _ _ h => h) (Or.inl ⟨by rfl, ?hyg227_26⟩) (by assumption) ?_
          case hyg227_26 => (intro w hSw; (try dsimp only at hSw); go_simp; (try with_reducible rfl))
          try simp only [Act.put, List.setIfInBounds_toArray, List.set_cons_zero, List.set_cons_succ]
          refine wpAnyH_done (by kernel_rfl) ?_ _
          have hlg227_ := below_trans hq172 hkg227_6
          replace xa1_ := cell_keep xa1_ hkg227_6
          replace xb1_ := cell_keep xb1_ hkg227_6
          replace xa2_ := cell_keep xa2_ hkg227_6
          replace xb2_ := cell_keep xb2_ hkg227_6
          replace xa3_ := cell_keep xa3_ hkg227_6
          replace xb3_ := cell_keep xb3_ hkg227_6
          go_wp2_with fail
          go_ret
          exact ⟨rfl, below_trans HBL.out hlg227_⟩
      · have EQ188 := hid hq188
        clear hq188
        rcases Bool.eq_false_or_eq_true (staOf t7a) with hq264 | hq264
        · have EQ264 := hid hq264
          clear hq264
          have EQ266 := hid (show depOf (.mk 4 [t4a, t7a]) = depOf t4a + 1 from (by have h := parts_dep t4a t7a EQ19.out; rw [h]; congr 1; first | rw [if_pos (by omega)] | rw [if_neg (by omega)]))
          have XW269 : IntKind.i64.wrap (depOf t4a + 1) = depOf t4a + 1 := IntWalk.i64_in _ (by omega)
          have EQ270 := hid (show anyOf (.mk 4 [t4a, t7a]) = anyOf t4a + anyOf t7a from parts_any t4a t7a EQ19.out)
          have XF273 := any_bd t4a
          have XF276 := any_bd t7a
          have XW279 : IntKind.i64.wrap (anyOf t4a + anyOf t7a) = anyOf t4a + anyOf t7a := IntWalk.i64_in _ (by omega)
          have EQ280 := hid (show staOf (.mk 4 [t4a, t7a]) = false from (by rw [parts_sta t4a t7a EQ19.out, EQ188.out, EQ264.out]; rfl))
          go_wp2_with fail
          refine wp_region_held_drew (S := (fun w' => Below (z172).heap.size (z172) w' ∧ w'.cell? ⟨z4.heap.size, 0, none⟩ = some (.int .i64 k4a) ∧ w'.cell? ⟨z4.heap.size, 1, none⟩ = some (.slice a4a n4a c4a) ∧ w'.cell? ⟨z7.heap.size, 0, none⟩ = some (.int .i64 k7a) ∧ w'.cell? ⟨z7.heap.size, 1, none⟩ = some (.slice a7a n7a c7a) ∧ w'.cell? ⟨z7.heap.size + 1 + 1, 0, none⟩ = some (.int .i64 4) ∧ w'.cell? ⟨z7.heap.size + 1 + 1, 1, none⟩ = some (.slice (some ⟨z7.heap.size + 1, 0, none⟩) 2 2))) (by kernel_rfl) ?_ (fun hS0 => ?_)
          · (refine (fun hB => ⟨hB, cell_keep xa1_ hB, cell_keep xb1_ hB, cell_keep xa2_ hB, cell_keep xb2_ hB, cell_keep xa3_ hB, cell_keep xb3_ hB⟩ : Below (z172).heap.size (z172) _ → _) ?_; exact below_drew _)
          refine regTake (i := 0) (v := ?vg265_0) rfl (by kernel_rfl) (by kernel_rfl) (by kernel_rfl) (fun _ _ _ h => h) (Or.inl ⟨by rfl, ?hyg265_0⟩) (by assumption) ?_
          case hyg265_0 => (intro w hSw; (try dsimp only at hSw); go_simp; (try with_reducible rfl))
          try simp only [Act.put, List.setIfInBounds_toArray, List.set_cons_zero, List.set_cons_succ]
          refine regTake (i := 2) (v := ?vg265_2) rfl (by kernel_rfl) (by kernel_rfl) (by kernel_rfl) (fun _ _ _ h => h) (Or.inl ⟨by rfl, ?hyg265_2⟩) (by assumption) ?_
          case hyg265_2 => (intro w hSw; (try dsimp only at hSw); go_simp; (try with_reducible rfl))
          try simp only [Act.put, List.setIfInBounds_toArray, List.set_cons_zero, List.set_cons_succ]
          refine regTake (i := 3) (v := ?vg265_3) rfl (by kernel_rfl) (by kernel_rfl) (by kernel_rfl) (fun _ _ _ h => h) (Or.inl ⟨by rfl, ?hyg265_3⟩) (by assumption) ?_
          case hyg265_3 => (intro w hSw; (try dsimp only at hSw); go_simp; (try with_reducible rfl))
          try simp only [Act.put, List.setIfInBounds_toArray, List.set_cons_zero, List.set_cons_succ]
          refine wpAnyH_ready (rs := [1]) (by kernel_rfl) (by simp) ?_
          refine regCons rfl (fun K hK => ?_)
          go_simp
          have hc267 := implTypeDepth (.mk 4 [t4a, t7a]) _ _ _ (HAL10.out.below (below_trans hq172 (below_drew (z172)))) (by have := HCL10.out; omega)
          rw [EQ266.out] at hc267
          refine hc267.mono ?_
          rintro e yg265_0 ⟨rfl, hyg265_0⟩
          have hkg265_0 := below_trans (below_drew (z172)) hyg265_0
          clear hc267
          refine hK.out _ _ ?_ (fun hS1 => ?_)
          · (refine (fun hB => ⟨hB, cell_keep xa1_ hB, cell_keep xb1_ hB, cell_keep xa2_ hB, cell_keep xb2_ hB, cell_keep xa3_ hB, cell_keep xb3_ hB⟩ : Below (z172).heap.size (z172) _ → _) ?_; exact hkg265_0)
          clear hK K hS0
          try simp only [Act.put, List.setIfInBounds_toArray, List.set_cons_zero, List.set_cons_succ]
          refine regTake (i := 4) (v := ?vg265_4) rfl (by kernel_rfl) (by kernel_rfl) (by kernel_rfl) (fun _ _ _ h => h) (Or.inl ⟨by rfl, ?hyg265_4⟩) (by assumption) ?_
          case hyg265_4 => (intro w hSw; (try dsimp only at hSw); go_simp; (try with_reducible rfl))
          try simp only [Act.put, List.setIfInBounds_toArray, List.set_cons_zero, List.set_cons_succ]
          refine regTake (i := 5) (v := ?vg265_5) rfl (by kernel_rfl) (by kernel_rfl) (by kernel_rfl) (fun _ _ _ h => h) (Or.inl ⟨by rfl, ?hyg265_5⟩) (by assumption) ?_
          case hyg265_5 => (intro w hSw; (try dsimp only at hSw); go_simp; (try with_reducible rfl))
          try simp only [Act.put, List.setIfInBounds_toArray, List.set_cons_zero, List.set_cons_succ]
          refine regTake (i := 6) (v := ?vg265_6) rfl (by kernel_rfl) (by kernel_rfl) (by kernel_rfl) (fun _ _ _ h => h) (Or.inl ⟨by rfl, ?hyg265_6⟩) (by assumption) ?_
          case hyg265_6 => (intro w hSw; (try dsimp only at hSw); go_simp; (try with_reducible rfl))
          try simp only [Act.put, List.setIfInBounds_toArray, List.set_cons_zero, List.set_cons_succ]
          refine regTake (i := 8) (v := ?vg265_8) rfl (by kernel_rfl) (by kernel_rfl) (by kernel_rfl) (fun _ _ _ h => h) (Or.inl ⟨by rfl, ?hyg265_8⟩) (by assumption) ?_
          case hyg265_8 => (intro w hSw; (try dsimp only at hSw); go_simp; (try with_reducible rfl))
          try simp only [Act.put, List.setIfInBounds_toArray, List.set_cons_zero, List.set_cons_succ]
          refine regTake (i := 10) (v := ?vg265_10) rfl (by kernel_rfl) (by kernel_rfl) (by kernel_rfl) (fun _ _ _ h => h) (Or.inl ⟨by rfl, ?hyg265_10⟩) (by assumption) ?_
          case hyg265_10 => (intro w hSw; (try dsimp only at hSw); go_simp; (try with_reducible rfl))
          try simp only [Act.put, List.setIfInBounds_toArray, List.set_cons_zero, List.set_cons_succ]
          refine wpAnyH_ready (rs := [7]) (by kernel_rfl) (by simp) ?_
          refine regCons rfl (fun K hK => ?_)
          go_simp
          have hc271 := implCountAny (.mk 4 [t4a, t7a]) _ _ _ (HAL10.out.below (below_trans hq172 (hkg265_0))) (by have := HCL10.out; omega)
          rw [EQ270.out] at hc271
          refine hc271.mono ?_
          rintro e yg265_1 ⟨rfl, hyg265_1⟩
          have hkg265_1 := below_trans (hkg265_0) hyg265_1
          clear hc271
          refine hK.out _ _ ?_ (fun hS2 => ?_)
          · (refine (fun hB => ⟨hB, cell_keep xa1_ hB, cell_keep xb1_ hB, cell_keep xa2_ hB, cell_keep xb2_ hB, cell_keep xa3_ hB, cell_keep xb3_ hB⟩ : Below (z172).heap.size (z172) _ → _) ?_; exact hkg265_1)
          clear hK K hS1
          try simp only [Act.put, List.setIfInBounds_toArray, List.set_cons_zero, List.set_cons_succ]
          refine wpAnyH_ready (rs := [9]) (by kernel_rfl) (by simp) ?_
          refine regCons rfl (fun K hK => ?_)
          go_simp
          have hc274 := implCountAny t4a _ _ _ (HA4a.out.below (below_trans hq172 (hkg265_1))) (by have := HC4a.out; omega)
          refine hc274.mono ?_
          rintro e yg265_2 ⟨rfl, hyg265_2⟩
          have hkg265_2 := below_trans (hkg265_1) hyg265_2
          clear hc274
          refine hK.out _ _ ?_ (fun hS3 => ?_)
          · (refine (fun hB => ⟨hB, cell_keep xa1_ hB, cell_keep xb1_ hB, cell_keep xa2_ hB, cell_keep xb2_ hB, cell_keep xa3_ hB, cell_keep xb3_ hB⟩ : Below (z172).heap.size (z172) _ → _) ?_; exact hkg265_2)
          clear hK K hS2
          try simp only [Act.put, List.setIfInBounds_toArray, List.set_cons_zero, List.set_cons_succ]
          refine wpAnyH_ready (rs := [11]) (by kernel_rfl) (by simp) ?_
          refine regCons rfl (fun K hK => ?_)
          go_simp
          have hc277 := implCountAny t7a _ _ _ (HA7a.out.below (below_trans hq172 (hkg265_2))) (by have := HC7a.out; omega)
          refine hc277.mono ?_
          rintro e yg265_3 ⟨rfl, hyg265_3⟩
          have hkg265_3 := below_trans (hkg265_2) hyg265_3
          clear hc277
          refine hK.out _ _ ?_ (fun hS4 => ?_)
          · (refine (fun hB => ⟨hB, cell_keep xa1_ hB, cell_keep xb1_ hB, cell_keep xa2_ hB, cell_keep xb2_ hB, cell_keep xa3_ hB, cell_keep xb3_ hB⟩ : Below (z172).heap.size (z172) _ → _) ?_; exact hkg265_3)
          clear hK K hS3
          try simp only [Act.put, List.setIfInBounds_toArray, List.set_cons_zero, List.set_cons_succ]
          refine regTake (i := 12) (v := ?vg265_12) rfl (by kernel_rfl) (by kernel_rfl) (by kernel_rfl) (fun _ _ _ h => h) (Or.inl ⟨by rfl, ?hyg265_12⟩) (by assumption) ?_
          case hyg265_12 => (intro w hSw; (try dsimp only at hSw); go_simp; (try with_reducible rfl))
          try simp only [Act.put, List.setIfInBounds_toArray, List.set_cons_zero, List.set_cons_succ]
          refine regTake (i := 13) (v := ?vg265_13) rfl (by kernel_rfl) (by kernel_rfl) (by kernel_rfl) (fun _ _ _ h => h) (Or.inl ⟨by rfl, ?hyg265_13⟩) (by assumption) ?_
          case hyg265_13 => (intro w hSw; (try dsimp only at hSw); go_simp; (try with_reducible rfl))
          try simp only [Act.put, List.setIfInBounds_toArray, List.set_cons_zero, List.set_cons_succ]
          refine regTake (i := 14) (v := .bool true) rfl (by kernel_rfl) (by kernel_rfl) (by kernel_rfl) (fun _ _ _ h => h) (Or.inl ⟨by rfl, ?hyg265_14⟩) (by assumption) ?_
          case hyg265_14 => (intro w hSw; (try dsimp only at hSw); go_simp; (try with_reducible rfl))
          try simp only [Act.put, List.setIfInBounds_toArray, List.set_cons_zero, List.set_cons_succ]
          refine regTake (i := 15) (v := ?vg265_15) rfl (by kernel_rfl) (by kernel_rfl) (by kernel_rfl) (fun _ _ _ h => h) (Or.inl ⟨by rfl, ?hyg265_15⟩) (by assumption) ?_
          case hyg265_15 => (intro w hSw; (try dsimp only at hSw); go_simp; (try with_reducible rfl))
          try simp only [Act.put, List.setIfInBounds_toArray, List.set_cons_zero, List.set_cons_succ]
          refine regTake (i := 16) (v := ?vg265_16) rfl (by kernel_rfl) (by kernel_rfl) (by kernel_rfl) (fun _ _ _ h => h) (Or.inl ⟨by rfl, ?hyg265_16⟩) (by assumption) ?_
          case hyg265_16 => (intro w hSw; (try dsimp only at hSw); go_simp; (try with_reducible rfl))
          try simp only [Act.put, List.setIfInBounds_toArray, List.set_cons_zero, List.set_cons_succ]
          refine regTake (i := 18) (v := ?vg265_18) rfl (by kernel_rfl) (by kernel_rfl) (by kernel_rfl) (fun _ _ _ h => h) (Or.inl ⟨by rfl, ?hyg265_18⟩) (by assumption) ?_
          case hyg265_18 => (intro w hSw; (try dsimp only at hSw); go_simp; (try with_reducible rfl))
          try simp only [Act.put, List.setIfInBounds_toArray, List.set_cons_zero, List.set_cons_succ]
          refine wpAnyH_ready (rs := [17]) (by kernel_rfl) (by simp) ?_
          refine regCons rfl (fun K hK => ?_)
          go_simp
          have hc281 := implIsStatic (.mk 4 [t4a, t7a]) _ _ _ (HAL10.out.below (below_trans hq172 (hkg265_3))) (by have := HCL10.out; omega)
          rw [EQ280.out] at hc281
          refine hc281.mono ?_
          rintro e yg265_4 ⟨rfl, hyg265_4⟩
          have hkg265_4 := below_trans (hkg265_3) hyg265_4
          clear hc281
          refine hK.out _ _ ?_ (fun hS5 => ?_)
          · (refine (fun hB => ⟨hB, cell_keep xa1_ hB, cell_keep xb1_ hB, cell_keep xa2_ hB, cell_keep xb2_ hB, cell_keep xa3_ hB, cell_keep xb3_ hB⟩ : Below (z172).heap.size (z172) _ → _) ?_; exact hkg265_4)
          clear hK K hS4
          try simp only [Act.put, List.setIfInBounds_toArray, List.set_cons_zero, List.set_cons_succ]
          refine wpAnyH_ready (rs := [19]) (by kernel_rfl) (by simp) ?_
          refine regCons rfl (fun K hK => ?_)
          go_simp
          have hc283 := implIsStatic t4a _ _ _ (HA4a.out.below (below_trans hq172 (hkg265_4))) (by have := HC4a.out; omega)
          rw [EQ188.out] at hc283
          refine hc283.mono ?_
          rintro e yg265_5 ⟨rfl, hyg265_5⟩
          have hkg265_5 := below_trans (hkg265_4) hyg265_5
          clear hc283
          refine hK.out _ _ ?_ (fun hS6 => ?_)
          · (refine (fun hB => ⟨hB, cell_keep xa1_ hB, cell_keep xb1_ hB, cell_keep xa2_ hB, cell_keep xb2_ hB, cell_keep xa3_ hB, cell_keep xb3_ hB⟩ : Below (z172).heap.size (z172) _ → _) ?_; exact hkg265_5)
          clear hK K hS5
          try simp only [Act.put, List.setIfInBounds_toArray, List.set_cons_zero, List.set_cons_succ]
          refine regTake (i := 20) (v := ?vg265_20) rfl (by kernel_rfl) (by kernel_rfl) (by kernel_rfl) (fun _ _ _ h => h) (Or.inl ⟨by rfl, ?hyg265_20⟩) (by assumption) ?_
          case hyg265_20 => (intro w hSw; (try dsimp only at hSw); go_simp; (try with_reducible rfl))
          try simp only [Act.put, List.setIfInBounds_toArray, List.set_cons_zero, List.set_cons_succ]
          refine regTake (i := 21) (v := undef) rfl (by kernel_rfl) (by kernel_rfl) (by kernel_rfl) (fun _ _ _ h => h) (Or.inr ⟨by rfl, rfl⟩) (by assumption) ?_
          try simp only [Act.put, List.setIfInBounds_toArray, List.set_cons_zero, List.set_cons_succ]
          refine regTake (i := 22) (v := undef) rfl (by kernel_rfl) (by kernel_rfl) (by kernel_rfl) (fun _ _ _ h => h) (Or.inr ⟨by rfl, rfl⟩) (by assumption) ?_
          try simp only [Act.put, List.setIfInBounds_toArray, List.set_cons_zero, List.set_cons_succ]
          refine regTake (i := 23) (v := .bool false) rfl (by kernel_rfl) (by kernel_rfl) (by kernel_rfl) (fun _ _ _ h => h) (Or.inl ⟨by rfl, ?hyg265_23⟩) (by assumption) ?_
          case hyg265_23 => (intro w hSw; (try dsimp only at hSw); go_simp; (try with_reducible rfl))
          try simp only [Act.put, List.setIfInBounds_toArray, List.set_cons_zero, List.set_cons_succ]
          refine regTake (i := 24) (v := ?vg265_24) rfl (by kernel_rfl) (by kernel_rfl) (by kernel_rfl) (fun _ _ _ h => h) (Or.inl ⟨by rfl, ?hyg265_24⟩) (by assumption) ?_
          case hyg265_24 => (intro w hSw; (try dsimp only at hSw); go_simp; (try with_reducible rfl))
          try simp only [Act.put, List.setIfInBounds_toArray, List.set_cons_zero, List.set_cons_succ]
          refine regTake (i := 25) (v := .bool true) rfl (by kernel_rfl) (by kernel_rfl) (by kernel_rfl) (fun _ _ _ h => h) (Or.inl ⟨by rfl, ?hyg265_25⟩) (by assumption) ?_
          case hyg265_25 => (intro w hSw; (try dsimp only at hSw); go_simp; (try with_reducible rfl))
          try simp only [Act.put, List.setIfInBounds_toArray, List.set_cons_zero, List.set_cons_succ]
          refine regTake (i := 26) (v := ?vg265_26) rfl (by kernel_rfl) (by kernel_rfl) (by kernel_rfl) (fun _ _ _ h => h) (Or.inl ⟨by rfl, ?hyg265_26⟩) (by assumption) ?_
          case hyg265_26 => (intro w hSw; (try dsimp only at hSw); go_simp; (try with_reducible rfl))
          try simp only [Act.put, List.setIfInBounds_toArray, List.set_cons_zero, List.set_cons_succ]
          refine wpAnyH_done (by kernel_rfl) ?_ _
          have hlg265_ := below_trans hq172 hkg265_5
          replace xa1_ := cell_keep xa1_ hkg265_5
          replace xb1_ := cell_keep xb1_ hkg265_5
          replace xa2_ := cell_keep xa2_ hkg265_5
          replace xb2_ := cell_keep xb2_ hkg265_5
          replace xa3_ := cell_keep xa3_ hkg265_5
          replace xb3_ := cell_keep xb3_ hkg265_5
          go_wp2_with fail
          go_ret
          exact ⟨rfl, below_trans HBL.out hlg265_⟩
        · have EQ264 := hid hq264
          clear hq264
          have EQ286 := hid (show depOf (.mk 4 [t4a, t7a]) = depOf t4a + 1 from (by have h := parts_dep t4a t7a EQ19.out; rw [h]; congr 1; first | rw [if_pos (by omega)] | rw [if_neg (by omega)]))
          have XW289 : IntKind.i64.wrap (depOf t4a + 1) = depOf t4a + 1 := IntWalk.i64_in _ (by omega)
          have EQ290 := hid (show anyOf (.mk 4 [t4a, t7a]) = anyOf t4a + anyOf t7a from parts_any t4a t7a EQ19.out)
          have XF293 := any_bd t4a
          have XF296 := any_bd t7a
          have XW299 : IntKind.i64.wrap (anyOf t4a + anyOf t7a) = anyOf t4a + anyOf t7a := IntWalk.i64_in _ (by omega)
          have EQ300 := hid (show staOf (.mk 4 [t4a, t7a]) = false from (by rw [parts_sta t4a t7a EQ19.out, EQ188.out, EQ264.out]; rfl))
          go_wp2_with fail
          refine wp_region_held_drew (S := (fun w' => Below (z172).heap.size (z172) w' ∧ w'.cell? ⟨z4.heap.size, 0, none⟩ = some (.int .i64 k4a) ∧ w'.cell? ⟨z4.heap.size, 1, none⟩ = some (.slice a4a n4a c4a) ∧ w'.cell? ⟨z7.heap.size, 0, none⟩ = some (.int .i64 k7a) ∧ w'.cell? ⟨z7.heap.size, 1, none⟩ = some (.slice a7a n7a c7a) ∧ w'.cell? ⟨z7.heap.size + 1 + 1, 0, none⟩ = some (.int .i64 4) ∧ w'.cell? ⟨z7.heap.size + 1 + 1, 1, none⟩ = some (.slice (some ⟨z7.heap.size + 1, 0, none⟩) 2 2))) (by kernel_rfl) ?_ (fun hS0 => ?_)
          · (refine (fun hB => ⟨hB, cell_keep xa1_ hB, cell_keep xb1_ hB, cell_keep xa2_ hB, cell_keep xb2_ hB, cell_keep xa3_ hB, cell_keep xb3_ hB⟩ : Below (z172).heap.size (z172) _ → _) ?_; exact below_drew _)
          refine regTake (i := 0) (v := ?vg285_0) rfl (by kernel_rfl) (by kernel_rfl) (by kernel_rfl) (fun _ _ _ h => h) (Or.inl ⟨by rfl, ?hyg285_0⟩) (by assumption) ?_
          case hyg285_0 => (intro w hSw; (try dsimp only at hSw); go_simp; (try with_reducible rfl))
          try simp only [Act.put, List.setIfInBounds_toArray, List.set_cons_zero, List.set_cons_succ]
          refine regTake (i := 2) (v := ?vg285_2) rfl (by kernel_rfl) (by kernel_rfl) (by kernel_rfl) (fun _ _ _ h => h) (Or.inl ⟨by rfl, ?hyg285_2⟩) (by assumption) ?_
          case hyg285_2 => (intro w hSw; (try dsimp only at hSw); go_simp; (try with_reducible rfl))
          try simp only [Act.put, List.setIfInBounds_toArray, List.set_cons_zero, List.set_cons_succ]
          refine regTake (i := 3) (v := ?vg285_3) rfl (by kernel_rfl) (by kernel_rfl) (by kernel_rfl) (fun _ _ _ h => h) (Or.inl ⟨by rfl, ?hyg285_3⟩) (by assumption) ?_
          case hyg285_3 => (intro w hSw; (try dsimp only at hSw); go_simp; (try with_reducible rfl))
          try simp only [Act.put, List.setIfInBounds_toArray, List.set_cons_zero, List.set_cons_succ]
          refine wpAnyH_ready (rs := [1]) (by kernel_rfl) (by simp) ?_
          refine regCons rfl (fun K hK => ?_)
          go_simp
          have hc287 := implTypeDepth (.mk 4 [t4a, t7a]) _ _ _ (HAL10.out.below (below_trans hq172 (below_drew (z172)))) (by have := HCL10.out; omega)
          rw [EQ286.out] at hc287
          refine hc287.mono ?_
          rintro e yg285_0 ⟨rfl, hyg285_0⟩
          have hkg285_0 := below_trans (below_drew (z172)) hyg285_0
          clear hc287
          refine hK.out _ _ ?_ (fun hS1 => ?_)
          · (refine (fun hB => ⟨hB, cell_keep xa1_ hB, cell_keep xb1_ hB, cell_keep xa2_ hB, cell_keep xb2_ hB, cell_keep xa3_ hB, cell_keep xb3_ hB⟩ : Below (z172).heap.size (z172) _ → _) ?_; exact hkg285_0)
          clear hK K hS0
          try simp only [Act.put, List.setIfInBounds_toArray, List.set_cons_zero, List.set_cons_succ]
          refine regTake (i := 4) (v := ?vg285_4) rfl (by kernel_rfl) (by kernel_rfl) (by kernel_rfl) (fun _ _ _ h => h) (Or.inl ⟨by rfl, ?hyg285_4⟩) (by assumption) ?_
          case hyg285_4 => (intro w hSw; (try dsimp only at hSw); go_simp; (try with_reducible rfl))
          try simp only [Act.put, List.setIfInBounds_toArray, List.set_cons_zero, List.set_cons_succ]
          refine regTake (i := 5) (v := ?vg285_5) rfl (by kernel_rfl) (by kernel_rfl) (by kernel_rfl) (fun _ _ _ h => h) (Or.inl ⟨by rfl, ?hyg285_5⟩) (by assumption) ?_
          case hyg285_5 => (intro w hSw; (try dsimp only at hSw); go_simp; (try with_reducible rfl))
          try simp only [Act.put, List.setIfInBounds_toArray, List.set_cons_zero, List.set_cons_succ]
          refine regTake (i := 6) (v := ?vg285_6) rfl (by kernel_rfl) (by kernel_rfl) (by kernel_rfl) (fun _ _ _ h => h) (Or.inl ⟨by rfl, ?hyg285_6⟩) (by assumption) ?_
          case hyg285_6 => (intro w hSw; (try dsimp only at hSw); go_simp; (try with_reducible rfl))
          try simp only [Act.put, List.setIfInBounds_toArray, List.set_cons_zero, List.set_cons_succ]
          refine regTake (i := 8) (v := ?vg285_8) rfl (by kernel_rfl) (by kernel_rfl) (by kernel_rfl) (fun _ _ _ h => h) (Or.inl ⟨by rfl, ?hyg285_8⟩) (by assumption) ?_
          case hyg285_8 => (intro w hSw; (try dsimp only at hSw); go_simp; (try with_reducible rfl))
          try simp only [Act.put, List.setIfInBounds_toArray, List.set_cons_zero, List.set_cons_succ]
          refine regTake (i := 10) (v := ?vg285_10) rfl (by kernel_rfl) (by kernel_rfl) (by kernel_rfl) (fun _ _ _ h => h) (Or.inl ⟨by rfl, ?hyg285_10⟩) (by assumption) ?_
          case hyg285_10 => (intro w hSw; (try dsimp only at hSw); go_simp; (try with_reducible rfl))
          try simp only [Act.put, List.setIfInBounds_toArray, List.set_cons_zero, List.set_cons_succ]
          refine wpAnyH_ready (rs := [7]) (by kernel_rfl) (by simp) ?_
          refine regCons rfl (fun K hK => ?_)
          go_simp
          have hc291 := implCountAny (.mk 4 [t4a, t7a]) _ _ _ (HAL10.out.below (below_trans hq172 (hkg285_0))) (by have := HCL10.out; omega)
          rw [EQ290.out] at hc291
          refine hc291.mono ?_
          rintro e yg285_1 ⟨rfl, hyg285_1⟩
          have hkg285_1 := below_trans (hkg285_0) hyg285_1
          clear hc291
          refine hK.out _ _ ?_ (fun hS2 => ?_)
          · (refine (fun hB => ⟨hB, cell_keep xa1_ hB, cell_keep xb1_ hB, cell_keep xa2_ hB, cell_keep xb2_ hB, cell_keep xa3_ hB, cell_keep xb3_ hB⟩ : Below (z172).heap.size (z172) _ → _) ?_; exact hkg285_1)
          clear hK K hS1
          try simp only [Act.put, List.setIfInBounds_toArray, List.set_cons_zero, List.set_cons_succ]
          refine wpAnyH_ready (rs := [9]) (by kernel_rfl) (by simp) ?_
          refine regCons rfl (fun K hK => ?_)
          go_simp
          have hc294 := implCountAny t4a _ _ _ (HA4a.out.below (below_trans hq172 (hkg285_1))) (by have := HC4a.out; omega)
          refine hc294.mono ?_
          rintro e yg285_2 ⟨rfl, hyg285_2⟩
          have hkg285_2 := below_trans (hkg285_1) hyg285_2
          clear hc294
          refine hK.out _ _ ?_ (fun hS3 => ?_)
          · (refine (fun hB => ⟨hB, cell_keep xa1_ hB, cell_keep xb1_ hB, cell_keep xa2_ hB, cell_keep xb2_ hB, cell_keep xa3_ hB, cell_keep xb3_ hB⟩ : Below (z172).heap.size (z172) _ → _) ?_; exact hkg285_2)
          clear hK K hS2
          try simp only [Act.put, List.setIfInBounds_toArray, List.set_cons_zero, List.set_cons_succ]
          refine wpAnyH_ready (rs := [11]) (by kernel_rfl) (by simp) ?_
          refine regCons rfl (fun K hK => ?_)
          go_simp
          have hc297 := implCountAny t7a _ _ _ (HA7a.out.below (below_trans hq172 (hkg285_2))) (by have := HC7a.out; omega)
          refine hc297.mono ?_
          rintro e yg285_3 ⟨rfl, hyg285_3⟩
          have hkg285_3 := below_trans (hkg285_2) hyg285_3
          clear hc297
          refine hK.out _ _ ?_ (fun hS4 => ?_)
          · (refine (fun hB => ⟨hB, cell_keep xa1_ hB, cell_keep xb1_ hB, cell_keep xa2_ hB, cell_keep xb2_ hB, cell_keep xa3_ hB, cell_keep xb3_ hB⟩ : Below (z172).heap.size (z172) _ → _) ?_; exact hkg285_3)
          clear hK K hS3
          try simp only [Act.put, List.setIfInBounds_toArray, List.set_cons_zero, List.set_cons_succ]
          refine regTake (i := 12) (v := ?vg285_12) rfl (by kernel_rfl) (by kernel_rfl) (by kernel_rfl) (fun _ _ _ h => h) (Or.inl ⟨by rfl, ?hyg285_12⟩) (by assumption) ?_
          case hyg285_12 => (intro w hSw; (try dsimp only at hSw); go_simp; (try with_reducible rfl))
          try simp only [Act.put, List.setIfInBounds_toArray, List.set_cons_zero, List.set_cons_succ]
          refine regTake (i := 13) (v := ?vg285_13) rfl (by kernel_rfl) (by kernel_rfl) (by kernel_rfl) (fun _ _ _ h => h) (Or.inl ⟨by rfl, ?hyg285_13⟩) (by assumption) ?_
          case hyg285_13 => (intro w hSw; (try dsimp only at hSw); go_simp; (try with_reducible rfl))
          try simp only [Act.put, List.setIfInBounds_toArray, List.set_cons_zero, List.set_cons_succ]
          refine regTake (i := 14) (v := .bool true) rfl (by kernel_rfl) (by kernel_rfl) (by kernel_rfl) (fun _ _ _ h => h) (Or.inl ⟨by rfl, ?hyg285_14⟩) (by assumption) ?_
          case hyg285_14 => (intro w hSw; (try dsimp only at hSw); go_simp; (try with_reducible rfl))
          try simp only [Act.put, List.setIfInBounds_toArray, List.set_cons_zero, List.set_cons_succ]
          refine regTake (i := 15) (v := ?vg285_15) rfl (by kernel_rfl) (by kernel_rfl) (by kernel_rfl) (fun _ _ _ h => h) (Or.inl ⟨by rfl, ?hyg285_15⟩) (by assumption) ?_
          case hyg285_15 => (intro w hSw; (try dsimp only at hSw); go_simp; (try with_reducible rfl))
          try simp only [Act.put, List.setIfInBounds_toArray, List.set_cons_zero, List.set_cons_succ]
          refine regTake (i := 16) (v := ?vg285_16) rfl (by kernel_rfl) (by kernel_rfl) (by kernel_rfl) (fun _ _ _ h => h) (Or.inl ⟨by rfl, ?hyg285_16⟩) (by assumption) ?_
          case hyg285_16 => (intro w hSw; (try dsimp only at hSw); go_simp; (try with_reducible rfl))
          try simp only [Act.put, List.setIfInBounds_toArray, List.set_cons_zero, List.set_cons_succ]
          refine regTake (i := 18) (v := ?vg285_18) rfl (by kernel_rfl) (by kernel_rfl) (by kernel_rfl) (fun _ _ _ h => h) (Or.inl ⟨by rfl, ?hyg285_18⟩) (by assumption) ?_
          case hyg285_18 => (intro w hSw; (try dsimp only at hSw); go_simp; (try with_reducible rfl))
          try simp only [Act.put, List.setIfInBounds_toArray, List.set_cons_zero, List.set_cons_succ]
          refine wpAnyH_ready (rs := [17]) (by kernel_rfl) (by simp) ?_
          refine regCons rfl (fun K hK => ?_)
          go_simp
          have hc301 := implIsStatic (.mk 4 [t4a, t7a]) _ _ _ (HAL10.out.below (below_trans hq172 (hkg285_3))) (by have := HCL10.out; omega)
          rw [EQ300.out] at hc301
          refine hc301.mono ?_
          rintro e yg285_4 ⟨rfl, hyg285_4⟩
          have hkg285_4 := below_trans (hkg285_3) hyg285_4
          clear hc301
          refine hK.out _ _ ?_ (fun hS5 => ?_)
          · (refine (fun hB => ⟨hB, cell_keep xa1_ hB, cell_keep xb1_ hB, cell_keep xa2_ hB, cell_keep xb2_ hB, cell_keep xa3_ hB, cell_keep xb3_ hB⟩ : Below (z172).heap.size (z172) _ → _) ?_; exact hkg285_4)
          clear hK K hS4
          try simp only [Act.put, List.setIfInBounds_toArray, List.set_cons_zero, List.set_cons_succ]
          refine wpAnyH_ready (rs := [19]) (by kernel_rfl) (by simp) ?_
          refine regCons rfl (fun K hK => ?_)
          go_simp
          have hc303 := implIsStatic t4a _ _ _ (HA4a.out.below (below_trans hq172 (hkg285_4))) (by have := HC4a.out; omega)
          rw [EQ188.out] at hc303
          refine hc303.mono ?_
          rintro e yg285_5 ⟨rfl, hyg285_5⟩
          have hkg285_5 := below_trans (hkg285_4) hyg285_5
          clear hc303
          refine hK.out _ _ ?_ (fun hS6 => ?_)
          · (refine (fun hB => ⟨hB, cell_keep xa1_ hB, cell_keep xb1_ hB, cell_keep xa2_ hB, cell_keep xb2_ hB, cell_keep xa3_ hB, cell_keep xb3_ hB⟩ : Below (z172).heap.size (z172) _ → _) ?_; exact hkg285_5)
          clear hK K hS5
          try simp only [Act.put, List.setIfInBounds_toArray, List.set_cons_zero, List.set_cons_succ]
          refine regTake (i := 20) (v := ?vg285_20) rfl (by kernel_rfl) (by kernel_rfl) (by kernel_rfl) (fun _ _ _ h => h) (Or.inl ⟨by rfl, ?hyg285_20⟩) (by assumption) ?_
          case hyg285_20 => (intro w hSw; (try dsimp only at hSw); go_simp; (try with_reducible rfl))
          try simp only [Act.put, List.setIfInBounds_toArray, List.set_cons_zero, List.set_cons_succ]
          refine regTake (i := 21) (v := undef) rfl (by kernel_rfl) (by kernel_rfl) (by kernel_rfl) (fun _ _ _ h => h) (Or.inr ⟨by rfl, rfl⟩) (by assumption) ?_
          try simp only [Act.put, List.setIfInBounds_toArray, List.set_cons_zero, List.set_cons_succ]
          refine regTake (i := 22) (v := undef) rfl (by kernel_rfl) (by kernel_rfl) (by kernel_rfl) (fun _ _ _ h => h) (Or.inr ⟨by rfl, rfl⟩) (by assumption) ?_
          try simp only [Act.put, List.setIfInBounds_toArray, List.set_cons_zero, List.set_cons_succ]
          refine regTake (i := 23) (v := .bool false) rfl (by kernel_rfl) (by kernel_rfl) (by kernel_rfl) (fun _ _ _ h => h) (Or.inl ⟨by rfl, ?hyg285_23⟩) (by assumption) ?_
          case hyg285_23 => (intro w hSw; (try dsimp only at hSw); go_simp; (try with_reducible rfl))
          try simp only [Act.put, List.setIfInBounds_toArray, List.set_cons_zero, List.set_cons_succ]
          refine regTake (i := 24) (v := ?vg285_24) rfl (by kernel_rfl) (by kernel_rfl) (by kernel_rfl) (fun _ _ _ h => h) (Or.inl ⟨by rfl, ?hyg285_24⟩) (by assumption) ?_
          case hyg285_24 => (intro w hSw; (try dsimp only at hSw); go_simp; (try with_reducible rfl))
          try simp only [Act.put, List.setIfInBounds_toArray, List.set_cons_zero, List.set_cons_succ]
          refine regTake (i := 25) (v := .bool true) rfl (by kernel_rfl) (by kernel_rfl) (by kernel_rfl) (fun _ _ _ h => h) (Or.inl ⟨by rfl, ?hyg285_25⟩) (by assumption) ?_
          case hyg285_25 => (intro w hSw; (try dsimp only at hSw); go_simp; (try with_reducible rfl))
          try simp only [Act.put, List.setIfInBounds_toArray, List.set_cons_zero, List.set_cons_succ]
          refine regTake (i := 26) (v := ?vg285_26) rfl (by kernel_rfl) (by kernel_rfl) (by kernel_rfl) (fun _ _ _ h => h) (Or.inl ⟨by rfl, ?hyg285_26⟩) (by assumption) ?_
          case hyg285_26 => (intro w hSw; (try dsimp only at hSw); go_simp; (try with_reducible rfl))
          try simp only [Act.put, List.setIfInBounds_toArray, List.set_cons_zero, List.set_cons_succ]
          refine wpAnyH_done (by kernel_rfl) ?_ _
          have hlg285_ := below_trans hq172 hkg285_5
          replace xa1_ := cell_keep xa1_ hkg285_5
          replace xb1_ := cell_keep xb1_ hkg285_5
          replace xa2_ := cell_keep xa2_ hkg285_5
          replace xb2_ := cell_keep xb2_ hkg285_5
          replace xa3_ := cell_keep xa3_ hkg285_5
          replace xb3_ := cell_keep xb3_ hkg285_5
          go_wp2_with fail
          go_ret
          exact ⟨rfl, below_trans HBL.out hlg285_⟩
  · have EQ19 := hid hq19
    clear hq19
    go_wp2_with fail
    have hc306 := specTypeDepth t4a _ _ _ (HA4a.out.below hq15) (by have := HC4a.out; omega)
    refine hc306.mono ?_
    rintro e z307 ⟨rfl, hz307⟩
    have hq307 := below_trans hq15 hz307
    replace xa1_ := cell_keep xa1_ hz307
    replace xb1_ := cell_keep xb1_ hz307
    replace xa2_ := cell_keep xa2_ hz307
    replace xb2_ := cell_keep xb2_ hz307
    replace xa3_ := cell_keep xa3_ hz307
    replace xb3_ := cell_keep xb3_ hz307
    clear hc306 hz307
    go_wp2_with fail
    have hc308 := implTypeValid_any (.mk 4 [t4a, t7a]) _ _ _ (HAL10.out.below hq307)
    rw [EQ19.out] at hc308
    refine hc308.mono ?_
    rintro e z309 ⟨rfl, hz309⟩
    have hq309 := below_trans hq307 hz309
    replace xa1_ := cell_keep xa1_ hz309
    replace xb1_ := cell_keep xb1_ hz309
    replace xa2_ := cell_keep xa2_ hz309
    replace xb2_ := cell_keep xb2_ hz309
    replace xa3_ := cell_keep xa3_ hz309
    replace xb3_ := cell_keep xb3_ hz309
    clear hc308 hz309
    go_wp2_with fail
    have hc311 := specTypeDepth t4a _ _ _ (HA4a.out.below hq309) (by have := HC4a.out; omega)
    refine hc311.mono ?_
    rintro e z312 ⟨rfl, hz312⟩
    have hq312 := below_trans hq309 hz312
    replace xa1_ := cell_keep xa1_ hz312
    replace xb1_ := cell_keep xb1_ hz312
    replace xa2_ := cell_keep xa2_ hz312
    replace xb2_ := cell_keep xb2_ hz312
    replace xa3_ := cell_keep xa3_ hz312
    replace xb3_ := cell_keep xb3_ hz312
    clear hc311 hz312
    go_wp2_with fail
    go_ret
    exact ⟨rfl, below_trans HBL.out hq312⟩
end Go.Proofs.Ytelbpgdlcnnabaa
