/- The law FnSubtype: it returns true and writes nothing that was there. -/
import Derived.Test.YtelbpgdlcnnabaaDr8
import Derived.Test.YtelbpgdlcnnabaaDlP
import Derived.Test.YtelbpgdlcnnabaaReg
import Derived.Test.YtelbpgdlcnnabaaRaw
import Derived.Test.YtelbpgdlcnnabaaBlT
import Derived.Deep.RegionHeld3
namespace Go.Proofs.Ytelbpgdlcnnabaa
open Go.RowKit

/-- Boxes that have just been laid. -/
theorem lay1 (w : World) (o1 : Obj) : (w.alloc o1).heap[w.heap.size]? = some o1 := alloc_new _ _
theorem lay2 (w : World) (o1 o2 : Obj) : ((w.alloc o1).alloc o2).heap[w.heap.size]? = some o1 ∧ ((w.alloc o1).alloc o2).heap[w.heap.size + 1]? = some o2 := by
  have h2 := alloc_new (w.alloc o1) o2
  have hs : (w.alloc o1).heap.size = w.heap.size + 1 := by simp
  rw [hs] at h2
  exact ⟨(Below.heap_alloc _ _ _ (by simp)).trans (alloc_new _ _), h2⟩
theorem lay3 (w : World) (o1 o2 o3 : Obj) : (((w.alloc o1).alloc o2).alloc o3).heap[w.heap.size]? = some o1 ∧ (((w.alloc o1).alloc o2).alloc o3).heap[w.heap.size + 1]? = some o2 ∧ (((w.alloc o1).alloc o2).alloc o3).heap[w.heap.size + 1 + 1]? = some o3 := by
  obtain ⟨a, b⟩ := lay2 w o1 o2
  have h3 := alloc_new ((w.alloc o1).alloc o2) o3
  have hs : ((w.alloc o1).alloc o2).heap.size = w.heap.size + 1 + 1 := by simp
  rw [hs] at h3
  exact ⟨(Below.heap_alloc _ _ _ (by simp; omega)).trans a, (Below.heap_alloc _ _ _ (by simp)).trans b, h3⟩


set_option linter.unusedSimpArgs false in
set_option linter.unusedVariables false in
set_option maxRecDepth 100000 in
set_option maxHeartbeats 16000000 in
theorem lawDSub (a00 : Option Addr) (n00 cap00 : Nat) (w : World) (hB0 : BytA w a00 n00) (hn0 : n00 ≤ cap00) (hm0 : cap00 ≤ maxLen) :
    Calls Try.prog 11 #[.slice a00 n00 cap00] w fun e w' => e = .returned (.bool true) ∧ Below w.heap.size w w' := by
  by_cases hl0 : (n00 : Int) > 1048576
  · clear hB0
    go_enter Try.func11, Try.ntmps11
    go_wp2_with fail
    go_ret
    exact ⟨rfl, Below.refl _ _⟩
  have HBY0 := hid hB0
  have HNN0 := hid hn0
  have HMM0 := hid hm0
  clear hB0 hn0 hm0
  go_enter Try.func11, Try.ntmps11
  go_wp2_with fail
  refine (drawSubtype_any a00 n00 cap00 _ (HBY0.out.below (Below.refl _ _)) HNN0.out HMM0.out).mono ?_
  rintro e z4 ⟨t4a, t4b, v4a, v4b, f4a, f4b, rfl, -, ht4a, ht4b, hg4a, hg4b, hz4⟩
  obtain ⟨k4a, n4a, a4a, c4a, rfl⟩ := ht4a.agg
  obtain ⟨k4b, n4b, a4b, c4b, rfl⟩ := ht4b.agg
  have hba5 : Below z4.heap.size z4 ((z4.alloc (Obj.cells #[.int .i64 k4a, .slice a4a n4a c4a] 25)).alloc (Obj.cells #[.int .i64 k4b, .slice a4b n4b c4b] 25)) := (((Below.refl _ _).alloc (Nat.le_refl _) _).alloc (by simp) _)
  have hbb5 := below_trans hz4 hba5
  have hbc5 := hbb5
  have HBL := hid hbc5
  have HA4a := hid (ht4a.below hba5)
  have HR4a := hid (show ∀ x ∈ f4a, Raw ((z4.alloc (Obj.cells #[.int .i64 k4a, .slice a4a n4a c4a] 25)).alloc (Obj.cells #[.int .i64 k4b, .slice a4b n4b c4b] 25)) x from fun x hx => Raw.below ⟨ht4a.laid x hx, (hg4a x hx).2⟩ hba5)
  have HA4b := hid (ht4b.below hba5)
  have HR4b := hid (show ∀ x ∈ f4b, Raw ((z4.alloc (Obj.cells #[.int .i64 k4a, .slice a4a n4a c4a] 25)).alloc (Obj.cells #[.int .i64 k4b, .slice a4b n4b c4b] 25)) x from fun x hx => Raw.below ⟨ht4b.laid x hx, (hg4b x hx).2⟩ hba5)
  have hl5 := lay2 z4 (Obj.cells #[.int .i64 k4a, .slice a4a n4a c4a] 25) (Obj.cells #[.int .i64 k4b, .slice a4b n4b c4b] 25)
  have xa4a : (((z4.alloc (Obj.cells #[.int .i64 k4a, .slice a4a n4a c4a] 25)).alloc (Obj.cells #[.int .i64 k4b, .slice a4b n4b c4b] 25))).cell? ⟨z4.heap.size, 0, none⟩ = some (.int .i64 k4a) := by rw [cell_of_block hl5.1]; rfl
  have xb4a : (((z4.alloc (Obj.cells #[.int .i64 k4a, .slice a4a n4a c4a] 25)).alloc (Obj.cells #[.int .i64 k4b, .slice a4b n4b c4b] 25))).cell? ⟨z4.heap.size, 1, none⟩ = some (.slice a4a n4a c4a) := by rw [cell_of_block hl5.1]; rfl
  have xa4b : (((z4.alloc (Obj.cells #[.int .i64 k4a, .slice a4a n4a c4a] 25)).alloc (Obj.cells #[.int .i64 k4b, .slice a4b n4b c4b] 25))).cell? ⟨z4.heap.size + 1, 0, none⟩ = some (.int .i64 k4b) := by rw [cell_of_block hl5.2]; rfl
  have xb4b : (((z4.alloc (Obj.cells #[.int .i64 k4a, .slice a4a n4a c4a] 25)).alloc (Obj.cells #[.int .i64 k4b, .slice a4b n4b c4b] 25))).cell? ⟨z4.heap.size + 1, 1, none⟩ = some (.slice a4b n4b c4b) := by rw [cell_of_block hl5.2]; rfl
  have h05 := Below.refl (((z4.alloc (Obj.cells #[.int .i64 k4a, .slice a4a n4a c4a] 25)).alloc (Obj.cells #[.int .i64 k4b, .slice a4b n4b c4b] 25))).heap.size ((z4.alloc (Obj.cells #[.int .i64 k4a, .slice a4a n4a c4a] 25)).alloc (Obj.cells #[.int .i64 k4b, .slice a4b n4b c4b] 25))
  clear ht4a
  clear ht4b
  clear hba5 hbb5 hbc5 hl5 hz4
  rcases Bool.eq_false_or_eq_true (subOf 0 t4a t4b) with hq7 | hq7
  · have EQ7 := hid hq7
    clear hq7
    go_wp2_with fail
    have hc9 := implSubtype t4a t4b _ _ _ _ _ (HA4a.out.below h05) (HA4b.out.below h05)
    rw [EQ7.out] at hc9
    refine hc9.mono ?_
    rintro e z10 ⟨rfl, hz10⟩
    have hq10 := below_trans h05 hz10
    replace xa4a := cell_keep xa4a hz10
    replace xb4a := cell_keep xb4a hz10
    replace xa4b := cell_keep xa4b hz10
    replace xb4b := cell_keep xb4b hz10
    clear hc9 hz10
    have EQ12 := hid (show subOf 1 t4a t4b = true from (by have h := EQ7.out; rw [subOf_factor, Bool.and_eq_true] at h; exact h.1))
    go_wp2_with fail
    have hc13 := implSubPositive t4a t4b _ _ _ _ _ (HA4a.out.below hq10) (HA4b.out.below hq10)
    rw [EQ12.out] at hc13
    refine hc13.mono ?_
    rintro e z14 ⟨rfl, hz14⟩
    have hq14 := below_trans hq10 hz14
    replace xa4a := cell_keep xa4a hz14
    replace xb4a := cell_keep xb4a hz14
    replace xa4b := cell_keep xa4b hz14
    replace xb4b := cell_keep xb4b hz14
    clear hc13 hz14
    have EQ16 := hid (show subOf (-1) t4a t4b = true from (by have h := EQ7.out; rw [subOf_factor, Bool.and_eq_true] at h; exact h.2))
    go_wp2_with fail
    have hc17 := implSubNegative t4a t4b _ _ _ _ _ (HA4a.out.below hq14) (HA4b.out.below hq14)
    rw [EQ16.out] at hc17
    refine hc17.mono ?_
    rintro e z18 ⟨rfl, hz18⟩
    have hq18 := below_trans hq14 hz18
    replace xa4a := cell_keep xa4a hz18
    replace xb4a := cell_keep xb4a hz18
    replace xa4b := cell_keep xa4b hz18
    replace xb4b := cell_keep xb4b hz18
    clear hc17 hz18
    rcases Bool.eq_false_or_eq_true (subOf 0 t4a t4a) with hq26 | hq26
    · have EQ26 := hid hq26
      clear hq26
      have EQ36 := hid (show vld t4a = true from (by have h := EQ26.out; rw [subOf_self] at h; exact h))
      go_wp2_with fail
      refine wp_region_held_drew (S := (fun w' => Below (z18).heap.size (z18) w' ∧ w'.cell? ⟨z4.heap.size, 0, none⟩ = some (.int .i64 k4a) ∧ w'.cell? ⟨z4.heap.size, 1, none⟩ = some (.slice a4a n4a c4a) ∧ w'.cell? ⟨z4.heap.size + 1, 0, none⟩ = some (.int .i64 k4b) ∧ w'.cell? ⟨z4.heap.size + 1, 1, none⟩ = some (.slice a4b n4b c4b))) (by kernel_rfl) ?_ (fun hS0 => ?_)
      · (refine (fun hB => ⟨hB, cell_keep xa4a hB, cell_keep xb4a hB, cell_keep xa4b hB, cell_keep xb4b hB⟩ : Below (z18).heap.size (z18) _ → _) ?_; exact below_drew _)
      refine regTake (i := 0) (v := ?vg27_0) rfl (by kernel_rfl) (by kernel_rfl) (by kernel_rfl) (fun _ _ _ h => h) (Or.inl ⟨by rfl, ?hyg27_0⟩) (by assumption) ?_
      case hyg27_0 => (intro w hSw; (try dsimp only at hSw); go_simp; (try with_reducible rfl))
      try simp only [Act.put, List.setIfInBounds_toArray, List.set_cons_zero, List.set_cons_succ]
      refine regTake (i := 1) (v := ?vg27_1) rfl (by kernel_rfl) (by kernel_rfl) (by kernel_rfl) (fun _ _ _ h => h) (Or.inl ⟨by rfl, ?hyg27_1⟩) (by assumption) ?_
      case hyg27_1 => (intro w hSw; (try dsimp only at hSw); go_simp; (try with_reducible rfl))
      try simp only [Act.put, List.setIfInBounds_toArray, List.set_cons_zero, List.set_cons_succ]
      refine regTake (i := 2) (v := ?vg27_2) rfl (by kernel_rfl) (by kernel_rfl) (by kernel_rfl) (fun _ _ _ h => h) (Or.inl ⟨by rfl, ?hyg27_2⟩) (by assumption) ?_
      case hyg27_2 => (intro w hSw; (try dsimp only at hSw); go_simp; (try with_reducible rfl))
      try simp only [Act.put, List.setIfInBounds_toArray, List.set_cons_zero, List.set_cons_succ]
      refine wpAnyH_ready (rs := [3]) (by kernel_rfl) (by simp) ?_
      refine regCons rfl (fun K hK => ?_)
      go_simp
      have hc28 := specSubtype t4a t4b _ _ _ _ _ (HA4a.out.below (below_trans hq18 (below_drew (z18)))) (HA4b.out.below (below_trans hq18 (below_drew (z18))))
      rw [EQ7.out] at hc28
      refine hc28.mono ?_
      rintro e yg27_0 ⟨rfl, hyg27_0⟩
      have hkg27_0 := below_trans (below_drew (z18)) hyg27_0
      clear hc28
      refine hK.out _ _ ?_ (fun hS1 => ?_)
      · (refine (fun hB => ⟨hB, cell_keep xa4a hB, cell_keep xb4a hB, cell_keep xa4b hB, cell_keep xb4b hB⟩ : Below (z18).heap.size (z18) _ → _) ?_; exact hkg27_0)
      clear hK K hS0
      try simp only [Act.put, List.setIfInBounds_toArray, List.set_cons_zero, List.set_cons_succ]
      refine regTake (i := 4) (v := ?vg27_4) rfl (by kernel_rfl) (by kernel_rfl) (by kernel_rfl) (fun _ _ _ h => h) (Or.inl ⟨by rfl, ?hyg27_4⟩) (by assumption) ?_
      case hyg27_4 => (intro w hSw; (try dsimp only at hSw); go_simp; (try with_reducible rfl))
      try simp only [Act.put, List.setIfInBounds_toArray, List.set_cons_zero, List.set_cons_succ]
      refine regTake (i := 5) (v := ?vg27_5) rfl (by kernel_rfl) (by kernel_rfl) (by kernel_rfl) (fun _ _ _ h => h) (Or.inl ⟨by rfl, ?hyg27_5⟩) (by assumption) ?_
      case hyg27_5 => (intro w hSw; (try dsimp only at hSw); go_simp; (try with_reducible rfl))
      try simp only [Act.put, List.setIfInBounds_toArray, List.set_cons_zero, List.set_cons_succ]
      refine regTake (i := 6) (v := ?vg27_6) rfl (by kernel_rfl) (by kernel_rfl) (by kernel_rfl) (fun _ _ _ h => h) (Or.inl ⟨by rfl, ?hyg27_6⟩) (by assumption) ?_
      case hyg27_6 => (intro w hSw; (try dsimp only at hSw); go_simp; (try with_reducible rfl))
      try simp only [Act.put, List.setIfInBounds_toArray, List.set_cons_zero, List.set_cons_succ]
      refine regTake (i := 7) (v := ?vg27_7) rfl (by kernel_rfl) (by kernel_rfl) (by kernel_rfl) (fun _ _ _ h => h) (Or.inl ⟨by rfl, ?hyg27_7⟩) (by assumption) ?_
      case hyg27_7 => (intro w hSw; (try dsimp only at hSw); go_simp; (try with_reducible rfl))
      try simp only [Act.put, List.setIfInBounds_toArray, List.set_cons_zero, List.set_cons_succ]
      refine regTake (i := 8) (v := ?vg27_8) rfl (by kernel_rfl) (by kernel_rfl) (by kernel_rfl) (fun _ _ _ h => h) (Or.inl ⟨by rfl, ?hyg27_8⟩) (by assumption) ?_
      case hyg27_8 => (intro w hSw; (try dsimp only at hSw); go_simp; (try with_reducible rfl))
      try simp only [Act.put, List.setIfInBounds_toArray, List.set_cons_zero, List.set_cons_succ]
      refine wpAnyH_ready (rs := [9]) (by kernel_rfl) (by simp) ?_
      refine regCons rfl (fun K hK => ?_)
      go_simp
      have hc30 := specSubPositive t4a t4b _ _ _ _ _ (HA4a.out.below (below_trans hq18 (hkg27_0))) (HA4b.out.below (below_trans hq18 (hkg27_0)))
      rw [EQ12.out] at hc30
      refine hc30.mono ?_
      rintro e yg27_1 ⟨rfl, hyg27_1⟩
      have hkg27_1 := below_trans (hkg27_0) hyg27_1
      clear hc30
      refine hK.out _ _ ?_ (fun hS2 => ?_)
      · (refine (fun hB => ⟨hB, cell_keep xa4a hB, cell_keep xb4a hB, cell_keep xa4b hB, cell_keep xb4b hB⟩ : Below (z18).heap.size (z18) _ → _) ?_; exact hkg27_1)
      clear hK K hS1
      try simp only [Act.put, List.setIfInBounds_toArray, List.set_cons_zero, List.set_cons_succ]
      refine regTake (i := 10) (v := ?vg27_10) rfl (by kernel_rfl) (by kernel_rfl) (by kernel_rfl) (fun _ _ _ h => h) (Or.inl ⟨by rfl, ?hyg27_10⟩) (by assumption) ?_
      case hyg27_10 => (intro w hSw; (try dsimp only at hSw); go_simp; (try with_reducible rfl))
      try simp only [Act.put, List.setIfInBounds_toArray, List.set_cons_zero, List.set_cons_succ]
      refine regTake (i := 11) (v := .bool true) rfl (by kernel_rfl) (by kernel_rfl) (by kernel_rfl) (fun _ _ _ h => h) (Or.inl ⟨by rfl, ?hyg27_11⟩) (by assumption) ?_
      case hyg27_11 => (intro w hSw; (try dsimp only at hSw); go_simp; (try with_reducible rfl))
      try simp only [Act.put, List.setIfInBounds_toArray, List.set_cons_zero, List.set_cons_succ]
      refine regTake (i := 12) (v := ?vg27_12) rfl (by kernel_rfl) (by kernel_rfl) (by kernel_rfl) (fun _ _ _ h => h) (Or.inl ⟨by rfl, ?hyg27_12⟩) (by assumption) ?_
      case hyg27_12 => (intro w hSw; (try dsimp only at hSw); go_simp; (try with_reducible rfl))
      try simp only [Act.put, List.setIfInBounds_toArray, List.set_cons_zero, List.set_cons_succ]
      refine regTake (i := 13) (v := ?vg27_13) rfl (by kernel_rfl) (by kernel_rfl) (by kernel_rfl) (fun _ _ _ h => h) (Or.inl ⟨by rfl, ?hyg27_13⟩) (by assumption) ?_
      case hyg27_13 => (intro w hSw; (try dsimp only at hSw); go_simp; (try with_reducible rfl))
      try simp only [Act.put, List.setIfInBounds_toArray, List.set_cons_zero, List.set_cons_succ]
      refine regTake (i := 14) (v := ?vg27_14) rfl (by kernel_rfl) (by kernel_rfl) (by kernel_rfl) (fun _ _ _ h => h) (Or.inl ⟨by rfl, ?hyg27_14⟩) (by assumption) ?_
      case hyg27_14 => (intro w hSw; (try dsimp only at hSw); go_simp; (try with_reducible rfl))
      try simp only [Act.put, List.setIfInBounds_toArray, List.set_cons_zero, List.set_cons_succ]
      refine regTake (i := 15) (v := ?vg27_15) rfl (by kernel_rfl) (by kernel_rfl) (by kernel_rfl) (fun _ _ _ h => h) (Or.inl ⟨by rfl, ?hyg27_15⟩) (by assumption) ?_
      case hyg27_15 => (intro w hSw; (try dsimp only at hSw); go_simp; (try with_reducible rfl))
      try simp only [Act.put, List.setIfInBounds_toArray, List.set_cons_zero, List.set_cons_succ]
      refine wpAnyH_ready (rs := [16]) (by kernel_rfl) (by simp) ?_
      refine regCons rfl (fun K hK => ?_)
      go_simp
      have hc32 := specSubNegative t4a t4b _ _ _ _ _ (HA4a.out.below (below_trans hq18 (hkg27_1))) (HA4b.out.below (below_trans hq18 (hkg27_1)))
      rw [EQ16.out] at hc32
      refine hc32.mono ?_
      rintro e yg27_2 ⟨rfl, hyg27_2⟩
      have hkg27_2 := below_trans (hkg27_1) hyg27_2
      clear hc32
      refine hK.out _ _ ?_ (fun hS3 => ?_)
      · (refine (fun hB => ⟨hB, cell_keep xa4a hB, cell_keep xb4a hB, cell_keep xa4b hB, cell_keep xb4b hB⟩ : Below (z18).heap.size (z18) _ → _) ?_; exact hkg27_2)
      clear hK K hS2
      try simp only [Act.put, List.setIfInBounds_toArray, List.set_cons_zero, List.set_cons_succ]
      refine regTake (i := 17) (v := ?vg27_17) rfl (by kernel_rfl) (by kernel_rfl) (by kernel_rfl) (fun _ _ _ h => h) (Or.inl ⟨by rfl, ?hyg27_17⟩) (by assumption) ?_
      case hyg27_17 => (intro w hSw; (try dsimp only at hSw); go_simp; (try with_reducible rfl))
      try simp only [Act.put, List.setIfInBounds_toArray, List.set_cons_zero, List.set_cons_succ]
      refine regTake (i := 18) (v := .bool true) rfl (by kernel_rfl) (by kernel_rfl) (by kernel_rfl) (fun _ _ _ h => h) (Or.inl ⟨by rfl, ?hyg27_18⟩) (by assumption) ?_
      case hyg27_18 => (intro w hSw; (try dsimp only at hSw); go_simp; (try with_reducible rfl))
      try simp only [Act.put, List.setIfInBounds_toArray, List.set_cons_zero, List.set_cons_succ]
      refine regTake (i := 19) (v := ?vg27_19) rfl (by kernel_rfl) (by kernel_rfl) (by kernel_rfl) (fun _ _ _ h => h) (Or.inl ⟨by rfl, ?hyg27_19⟩) (by assumption) ?_
      case hyg27_19 => (intro w hSw; (try dsimp only at hSw); go_simp; (try with_reducible rfl))
      try simp only [Act.put, List.setIfInBounds_toArray, List.set_cons_zero, List.set_cons_succ]
      refine regTake (i := 20) (v := ?vg27_20) rfl (by kernel_rfl) (by kernel_rfl) (by kernel_rfl) (fun _ _ _ h => h) (Or.inl ⟨by rfl, ?hyg27_20⟩) (by assumption) ?_
      case hyg27_20 => (intro w hSw; (try dsimp only at hSw); go_simp; (try with_reducible rfl))
      try simp only [Act.put, List.setIfInBounds_toArray, List.set_cons_zero, List.set_cons_succ]
      refine regTake (i := 21) (v := ?vg27_21) rfl (by kernel_rfl) (by kernel_rfl) (by kernel_rfl) (fun _ _ _ h => h) (Or.inl ⟨by rfl, ?hyg27_21⟩) (by assumption) ?_
      case hyg27_21 => (intro w hSw; (try dsimp only at hSw); go_simp; (try with_reducible rfl))
      try simp only [Act.put, List.setIfInBounds_toArray, List.set_cons_zero, List.set_cons_succ]
      refine regTake (i := 22) (v := ?vg27_22) rfl (by kernel_rfl) (by kernel_rfl) (by kernel_rfl) (fun _ _ _ h => h) (Or.inl ⟨by rfl, ?hyg27_22⟩) (by assumption) ?_
      case hyg27_22 => (intro w hSw; (try dsimp only at hSw); go_simp; (try with_reducible rfl))
      try simp only [Act.put, List.setIfInBounds_toArray, List.set_cons_zero, List.set_cons_succ]
      refine regTake (i := 23) (v := ?vg27_23) rfl (by kernel_rfl) (by kernel_rfl) (by kernel_rfl) (fun _ _ _ h => h) (Or.inl ⟨by rfl, ?hyg27_23⟩) (by assumption) ?_
      case hyg27_23 => (intro w hSw; (try dsimp only at hSw); go_simp; (try with_reducible rfl))
      try simp only [Act.put, List.setIfInBounds_toArray, List.set_cons_zero, List.set_cons_succ]
      refine regTake (i := 24) (v := .bool true) rfl (by kernel_rfl) (by kernel_rfl) (by kernel_rfl) (fun _ _ _ h => h) (Or.inl ⟨by rfl, ?hyg27_24⟩) (by assumption) ?_
      case hyg27_24 => (intro w hSw; (try dsimp only at hSw); go_simp; (try with_reducible rfl))
      try simp only [Act.put, List.setIfInBounds_toArray, List.set_cons_zero, List.set_cons_succ]
      refine regTake (i := 25) (v := ?vg27_25) rfl (by kernel_rfl) (by kernel_rfl) (by kernel_rfl) (fun _ _ _ h => h) (Or.inl ⟨by rfl, ?hyg27_25⟩) (by assumption) ?_
      case hyg27_25 => (intro w hSw; (try dsimp only at hSw); go_simp; (try with_reducible rfl))
      try simp only [Act.put, List.setIfInBounds_toArray, List.set_cons_zero, List.set_cons_succ]
      refine regTake (i := 26) (v := .bool true) rfl (by kernel_rfl) (by kernel_rfl) (by kernel_rfl) (fun _ _ _ h => h) (Or.inl ⟨by rfl, ?hyg27_26⟩) (by assumption) ?_
      case hyg27_26 => (intro w hSw; (try dsimp only at hSw); go_simp; (try with_reducible rfl))
      try simp only [Act.put, List.setIfInBounds_toArray, List.set_cons_zero, List.set_cons_succ]
      refine regTake (i := 27) (v := ?vg27_27) rfl (by kernel_rfl) (by kernel_rfl) (by kernel_rfl) (fun _ _ _ h => h) (Or.inl ⟨by rfl, ?hyg27_27⟩) (by assumption) ?_
      case hyg27_27 => (intro w hSw; (try dsimp only at hSw); go_simp; (try with_reducible rfl))
      try simp only [Act.put, List.setIfInBounds_toArray, List.set_cons_zero, List.set_cons_succ]
      refine regTake (i := 28) (v := ?vg27_28) rfl (by kernel_rfl) (by kernel_rfl) (by kernel_rfl) (fun _ _ _ h => h) (Or.inl ⟨by rfl, ?hyg27_28⟩) (by assumption) ?_
      case hyg27_28 => (intro w hSw; (try dsimp only at hSw); go_simp; (try with_reducible rfl))
      try simp only [Act.put, List.setIfInBounds_toArray, List.set_cons_zero, List.set_cons_succ]
      refine regTake (i := 29) (v := ?vg27_29) rfl (by kernel_rfl) (by kernel_rfl) (by kernel_rfl) (fun _ _ _ h => h) (Or.inl ⟨by rfl, ?hyg27_29⟩) (by assumption) ?_
      case hyg27_29 => (intro w hSw; (try dsimp only at hSw); go_simp; (try with_reducible rfl))
      try simp only [Act.put, List.setIfInBounds_toArray, List.set_cons_zero, List.set_cons_succ]
      refine regTake (i := 31) (v := ?vg27_31) rfl (by kernel_rfl) (by kernel_rfl) (by kernel_rfl) (fun _ _ _ h => h) (Or.inl ⟨by rfl, ?hyg27_31⟩) (by assumption) ?_
      case hyg27_31 => (intro w hSw; (try dsimp only at hSw); go_simp; (try with_reducible rfl))
      try simp only [Act.put, List.setIfInBounds_toArray, List.set_cons_zero, List.set_cons_succ]
      refine wpAnyH_ready (rs := [30]) (by kernel_rfl) (by simp) ?_
      refine regCons rfl (fun K hK => ?_)
      go_simp
      have hc34 := implSubtype t4a t4a _ _ _ _ _ (HA4a.out.below (below_trans hq18 (hkg27_2))) (HA4a.out.below (below_trans hq18 (hkg27_2)))
      rw [EQ26.out] at hc34
      refine hc34.mono ?_
      rintro e yg27_3 ⟨rfl, hyg27_3⟩
      have hkg27_3 := below_trans (hkg27_2) hyg27_3
      clear hc34
      refine hK.out _ _ ?_ (fun hS4 => ?_)
      · (refine (fun hB => ⟨hB, cell_keep xa4a hB, cell_keep xb4a hB, cell_keep xa4b hB, cell_keep xb4b hB⟩ : Below (z18).heap.size (z18) _ → _) ?_; exact hkg27_3)
      clear hK K hS3
      try simp only [Act.put, List.setIfInBounds_toArray, List.set_cons_zero, List.set_cons_succ]
      refine wpAnyH_ready (rs := [32]) (by kernel_rfl) (by simp) ?_
      refine regCons rfl (fun K hK => ?_)
      go_simp
      have hc37 := implTypeValid_any t4a _ _ _ (HA4a.out.below (below_trans hq18 (hkg27_3)))
      rw [EQ36.out] at hc37
      refine hc37.mono ?_
      rintro e yg27_4 ⟨rfl, hyg27_4⟩
      have hkg27_4 := below_trans (hkg27_3) hyg27_4
      clear hc37
      refine hK.out _ _ ?_ (fun hS5 => ?_)
      · (refine (fun hB => ⟨hB, cell_keep xa4a hB, cell_keep xb4a hB, cell_keep xa4b hB, cell_keep xb4b hB⟩ : Below (z18).heap.size (z18) _ → _) ?_; exact hkg27_4)
      clear hK K hS4
      try simp only [Act.put, List.setIfInBounds_toArray, List.set_cons_zero, List.set_cons_succ]
      refine regTake (i := 33) (v := ?vg27_33) rfl (by kernel_rfl) (by kernel_rfl) (by kernel_rfl) (fun _ _ _ h => h) (Or.inl ⟨by rfl, ?hyg27_33⟩) (by assumption) ?_
      case hyg27_33 => (intro w hSw; (try dsimp only at hSw); go_simp; (try with_reducible rfl))
      try simp only [Act.put, List.setIfInBounds_toArray, List.set_cons_zero, List.set_cons_succ]
      refine regTake (i := 34) (v := .bool true) rfl (by kernel_rfl) (by kernel_rfl) (by kernel_rfl) (fun _ _ _ h => h) (Or.inl ⟨by rfl, ?hyg27_34⟩) (by assumption) ?_
      case hyg27_34 => (intro w hSw; (try dsimp only at hSw); go_simp; (try with_reducible rfl))
      try simp only [Act.put, List.setIfInBounds_toArray, List.set_cons_zero, List.set_cons_succ]
      refine regTake (i := 35) (v := ?vg27_35) rfl (by kernel_rfl) (by kernel_rfl) (by kernel_rfl) (fun _ _ _ h => h) (Or.inl ⟨by rfl, ?hyg27_35⟩) (by assumption) ?_
      case hyg27_35 => (intro w hSw; (try dsimp only at hSw); go_simp; (try with_reducible rfl))
      try simp only [Act.put, List.setIfInBounds_toArray, List.set_cons_zero, List.set_cons_succ]
      refine wpAnyH_done (by kernel_rfl) ?_ _
      have hlg27_ := below_trans hq18 hkg27_4
      replace xa4a := cell_keep xa4a hkg27_4
      replace xb4a := cell_keep xb4a hkg27_4
      replace xa4b := cell_keep xa4b hkg27_4
      replace xb4b := cell_keep xb4b hkg27_4
      go_wp2_with fail
      go_ret
      exact ⟨rfl, below_trans HBL.out hlg27_⟩
    · have EQ26 := hid hq26
      clear hq26
      have EQ48 := hid (show vld t4a = false from (by have h := EQ26.out; rw [subOf_self] at h; exact h))
      go_wp2_with fail
      refine wp_region_held_drew (S := (fun w' => Below (z18).heap.size (z18) w' ∧ w'.cell? ⟨z4.heap.size, 0, none⟩ = some (.int .i64 k4a) ∧ w'.cell? ⟨z4.heap.size, 1, none⟩ = some (.slice a4a n4a c4a) ∧ w'.cell? ⟨z4.heap.size + 1, 0, none⟩ = some (.int .i64 k4b) ∧ w'.cell? ⟨z4.heap.size + 1, 1, none⟩ = some (.slice a4b n4b c4b))) (by kernel_rfl) ?_ (fun hS0 => ?_)
      · (refine (fun hB => ⟨hB, cell_keep xa4a hB, cell_keep xb4a hB, cell_keep xa4b hB, cell_keep xb4b hB⟩ : Below (z18).heap.size (z18) _ → _) ?_; exact below_drew _)
      refine regTake (i := 0) (v := ?vg39_0) rfl (by kernel_rfl) (by kernel_rfl) (by kernel_rfl) (fun _ _ _ h => h) (Or.inl ⟨by rfl, ?hyg39_0⟩) (by assumption) ?_
      case hyg39_0 => (intro w hSw; (try dsimp only at hSw); go_simp; (try with_reducible rfl))
      try simp only [Act.put, List.setIfInBounds_toArray, List.set_cons_zero, List.set_cons_succ]
      refine regTake (i := 1) (v := ?vg39_1) rfl (by kernel_rfl) (by kernel_rfl) (by kernel_rfl) (fun _ _ _ h => h) (Or.inl ⟨by rfl, ?hyg39_1⟩) (by assumption) ?_
      case hyg39_1 => (intro w hSw; (try dsimp only at hSw); go_simp; (try with_reducible rfl))
      try simp only [Act.put, List.setIfInBounds_toArray, List.set_cons_zero, List.set_cons_succ]
      refine regTake (i := 2) (v := ?vg39_2) rfl (by kernel_rfl) (by kernel_rfl) (by kernel_rfl) (fun _ _ _ h => h) (Or.inl ⟨by rfl, ?hyg39_2⟩) (by assumption) ?_
      case hyg39_2 => (intro w hSw; (try dsimp only at hSw); go_simp; (try with_reducible rfl))
      try simp only [Act.put, List.setIfInBounds_toArray, List.set_cons_zero, List.set_cons_succ]
      refine wpAnyH_ready (rs := [3]) (by kernel_rfl) (by simp) ?_
      refine regCons rfl (fun K hK => ?_)
      go_simp
      have hc40 := specSubtype t4a t4b _ _ _ _ _ (HA4a.out.below (below_trans hq18 (below_drew (z18)))) (HA4b.out.below (below_trans hq18 (below_drew (z18))))
      rw [EQ7.out] at hc40
      refine hc40.mono ?_
      rintro e yg39_0 ⟨rfl, hyg39_0⟩
      have hkg39_0 := below_trans (below_drew (z18)) hyg39_0
      clear hc40
      refine hK.out _ _ ?_ (fun hS1 => ?_)
      · (refine (fun hB => ⟨hB, cell_keep xa4a hB, cell_keep xb4a hB, cell_keep xa4b hB, cell_keep xb4b hB⟩ : Below (z18).heap.size (z18) _ → _) ?_; exact hkg39_0)
      clear hK K hS0
      try simp only [Act.put, List.setIfInBounds_toArray, List.set_cons_zero, List.set_cons_succ]
      refine regTake (i := 4) (v := ?vg39_4) rfl (by kernel_rfl) (by kernel_rfl) (by kernel_rfl) (fun _ _ _ h => h) (Or.inl ⟨by rfl, ?hyg39_4⟩) (by assumption) ?_
      case hyg39_4 => (intro w hSw; (try dsimp only at hSw); go_simp; (try with_reducible rfl))
      try simp only [Act.put, List.setIfInBounds_toArray, List.set_cons_zero, List.set_cons_succ]
      refine regTake (i := 5) (v := ?vg39_5) rfl (by kernel_rfl) (by kernel_rfl) (by kernel_rfl) (fun _ _ _ h => h) (Or.inl ⟨by rfl, ?hyg39_5⟩) (by assumption) ?_
      case hyg39_5 => (intro w hSw; (try dsimp only at hSw); go_simp; (try with_reducible rfl))
      try simp only [Act.put, List.setIfInBounds_toArray, List.set_cons_zero, List.set_cons_succ]
      refine regTake (i := 6) (v := ?vg39_6) rfl (by kernel_rfl) (by kernel_rfl) (by kernel_rfl) (fun _ _ _ h => h) (Or.inl ⟨by rfl, ?hyg39_6⟩) (by assumption) ?_
      case hyg39_6 => (intro w hSw; (try dsimp only at hSw); go_simp; (try with_reducible rfl))
      try simp only [Act.put, List.setIfInBounds_toArray, List.set_cons_zero, List.set_cons_succ]
      refine regTake (i := 7) (v := ?vg39_7) rfl (by kernel_rfl) (by kernel_rfl) (by kernel_rfl) (fun _ _ _ h => h) (Or.inl ⟨by rfl, ?hyg39_7⟩) (by assumption) ?_
      case hyg39_7 => (intro w hSw; (try dsimp only at hSw); go_simp; (try with_reducible rfl))
      try simp only [Act.put, List.setIfInBounds_toArray, List.set_cons_zero, List.set_cons_succ]
      refine regTake (i := 8) (v := ?vg39_8) rfl (by kernel_rfl) (by kernel_rfl) (by kernel_rfl) (fun _ _ _ h => h) (Or.inl ⟨by rfl, ?hyg39_8⟩) (by assumption) ?_
      case hyg39_8 => (intro w hSw; (try dsimp only at hSw); go_simp; (try with_reducible rfl))
      try simp only [Act.put, List.setIfInBounds_toArray, List.set_cons_zero, List.set_cons_succ]
      refine wpAnyH_ready (rs := [9]) (by kernel_rfl) (by simp) ?_
      refine regCons rfl (fun K hK => ?_)
      go_simp
      have hc42 := specSubPositive t4a t4b _ _ _ _ _ (HA4a.out.below (below_trans hq18 (hkg39_0))) (HA4b.out.below (below_trans hq18 (hkg39_0)))
      rw [EQ12.out] at hc42
      refine hc42.mono ?_
      rintro e yg39_1 ⟨rfl, hyg39_1⟩
      have hkg39_1 := below_trans (hkg39_0) hyg39_1
      clear hc42
      refine hK.out _ _ ?_ (fun hS2 => ?_)
      · (refine (fun hB => ⟨hB, cell_keep xa4a hB, cell_keep xb4a hB, cell_keep xa4b hB, cell_keep xb4b hB⟩ : Below (z18).heap.size (z18) _ → _) ?_; exact hkg39_1)
      clear hK K hS1
      try simp only [Act.put, List.setIfInBounds_toArray, List.set_cons_zero, List.set_cons_succ]
      refine regTake (i := 10) (v := ?vg39_10) rfl (by kernel_rfl) (by kernel_rfl) (by kernel_rfl) (fun _ _ _ h => h) (Or.inl ⟨by rfl, ?hyg39_10⟩) (by assumption) ?_
      case hyg39_10 => (intro w hSw; (try dsimp only at hSw); go_simp; (try with_reducible rfl))
      try simp only [Act.put, List.setIfInBounds_toArray, List.set_cons_zero, List.set_cons_succ]
      refine regTake (i := 11) (v := .bool true) rfl (by kernel_rfl) (by kernel_rfl) (by kernel_rfl) (fun _ _ _ h => h) (Or.inl ⟨by rfl, ?hyg39_11⟩) (by assumption) ?_
      case hyg39_11 => (intro w hSw; (try dsimp only at hSw); go_simp; (try with_reducible rfl))
      try simp only [Act.put, List.setIfInBounds_toArray, List.set_cons_zero, List.set_cons_succ]
      refine regTake (i := 12) (v := ?vg39_12) rfl (by kernel_rfl) (by kernel_rfl) (by kernel_rfl) (fun _ _ _ h => h) (Or.inl ⟨by rfl, ?hyg39_12⟩) (by assumption) ?_
      case hyg39_12 => (intro w hSw; (try dsimp only at hSw); go_simp; (try with_reducible rfl))
      try simp only [Act.put, List.setIfInBounds_toArray, List.set_cons_zero, List.set_cons_succ]
      refine regTake (i := 13) (v := ?vg39_13) rfl (by kernel_rfl) (by kernel_rfl) (by kernel_rfl) (fun _ _ _ h => h) (Or.inl ⟨by rfl, ?hyg39_13⟩) (by assumption) ?_
      case hyg39_13 => (intro w hSw; (try dsimp only at hSw); go_simp; (try with_reducible rfl))
      try simp only [Act.put, List.setIfInBounds_toArray, List.set_cons_zero, List.set_cons_succ]
      refine regTake (i := 14) (v := ?vg39_14) rfl (by kernel_rfl) (by kernel_rfl) (by kernel_rfl) (fun _ _ _ h => h) (Or.inl ⟨by rfl, ?hyg39_14⟩) (by assumption) ?_
      case hyg39_14 => (intro w hSw; (try dsimp only at hSw); go_simp; (try with_reducible rfl))
      try simp only [Act.put, List.setIfInBounds_toArray, List.set_cons_zero, List.set_cons_succ]
      refine regTake (i := 15) (v := ?vg39_15) rfl (by kernel_rfl) (by kernel_rfl) (by kernel_rfl) (fun _ _ _ h => h) (Or.inl ⟨by rfl, ?hyg39_15⟩) (by assumption) ?_
      case hyg39_15 => (intro w hSw; (try dsimp only at hSw); go_simp; (try with_reducible rfl))
      try simp only [Act.put, List.setIfInBounds_toArray, List.set_cons_zero, List.set_cons_succ]
      refine wpAnyH_ready (rs := [16]) (by kernel_rfl) (by simp) ?_
      refine regCons rfl (fun K hK => ?_)
      go_simp
      have hc44 := specSubNegative t4a t4b _ _ _ _ _ (HA4a.out.below (below_trans hq18 (hkg39_1))) (HA4b.out.below (below_trans hq18 (hkg39_1)))
      rw [EQ16.out] at hc44
      refine hc44.mono ?_
      rintro e yg39_2 ⟨rfl, hyg39_2⟩
      have hkg39_2 := below_trans (hkg39_1) hyg39_2
      clear hc44
      refine hK.out _ _ ?_ (fun hS3 => ?_)
      · (refine (fun hB => ⟨hB, cell_keep xa4a hB, cell_keep xb4a hB, cell_keep xa4b hB, cell_keep xb4b hB⟩ : Below (z18).heap.size (z18) _ → _) ?_; exact hkg39_2)
      clear hK K hS2
      try simp only [Act.put, List.setIfInBounds_toArray, List.set_cons_zero, List.set_cons_succ]
      refine regTake (i := 17) (v := ?vg39_17) rfl (by kernel_rfl) (by kernel_rfl) (by kernel_rfl) (fun _ _ _ h => h) (Or.inl ⟨by rfl, ?hyg39_17⟩) (by assumption) ?_
      case hyg39_17 => (intro w hSw; (try dsimp only at hSw); go_simp; (try with_reducible rfl))
      try simp only [Act.put, List.setIfInBounds_toArray, List.set_cons_zero, List.set_cons_succ]
      refine regTake (i := 18) (v := .bool true) rfl (by kernel_rfl) (by kernel_rfl) (by kernel_rfl) (fun _ _ _ h => h) (Or.inl ⟨by rfl, ?hyg39_18⟩) (by assumption) ?_
      case hyg39_18 => (intro w hSw; (try dsimp only at hSw); go_simp; (try with_reducible rfl))
      try simp only [Act.put, List.setIfInBounds_toArray, List.set_cons_zero, List.set_cons_succ]
      refine regTake (i := 19) (v := ?vg39_19) rfl (by kernel_rfl) (by kernel_rfl) (by kernel_rfl) (fun _ _ _ h => h) (Or.inl ⟨by rfl, ?hyg39_19⟩) (by assumption) ?_
      case hyg39_19 => (intro w hSw; (try dsimp only at hSw); go_simp; (try with_reducible rfl))
      try simp only [Act.put, List.setIfInBounds_toArray, List.set_cons_zero, List.set_cons_succ]
      refine regTake (i := 20) (v := ?vg39_20) rfl (by kernel_rfl) (by kernel_rfl) (by kernel_rfl) (fun _ _ _ h => h) (Or.inl ⟨by rfl, ?hyg39_20⟩) (by assumption) ?_
      case hyg39_20 => (intro w hSw; (try dsimp only at hSw); go_simp; (try with_reducible rfl))
      try simp only [Act.put, List.setIfInBounds_toArray, List.set_cons_zero, List.set_cons_succ]
      refine regTake (i := 21) (v := ?vg39_21) rfl (by kernel_rfl) (by kernel_rfl) (by kernel_rfl) (fun _ _ _ h => h) (Or.inl ⟨by rfl, ?hyg39_21⟩) (by assumption) ?_
      case hyg39_21 => (intro w hSw; (try dsimp only at hSw); go_simp; (try with_reducible rfl))
      try simp only [Act.put, List.setIfInBounds_toArray, List.set_cons_zero, List.set_cons_succ]
      refine regTake (i := 22) (v := ?vg39_22) rfl (by kernel_rfl) (by kernel_rfl) (by kernel_rfl) (fun _ _ _ h => h) (Or.inl ⟨by rfl, ?hyg39_22⟩) (by assumption) ?_
      case hyg39_22 => (intro w hSw; (try dsimp only at hSw); go_simp; (try with_reducible rfl))
      try simp only [Act.put, List.setIfInBounds_toArray, List.set_cons_zero, List.set_cons_succ]
      refine regTake (i := 23) (v := ?vg39_23) rfl (by kernel_rfl) (by kernel_rfl) (by kernel_rfl) (fun _ _ _ h => h) (Or.inl ⟨by rfl, ?hyg39_23⟩) (by assumption) ?_
      case hyg39_23 => (intro w hSw; (try dsimp only at hSw); go_simp; (try with_reducible rfl))
      try simp only [Act.put, List.setIfInBounds_toArray, List.set_cons_zero, List.set_cons_succ]
      refine regTake (i := 24) (v := .bool true) rfl (by kernel_rfl) (by kernel_rfl) (by kernel_rfl) (fun _ _ _ h => h) (Or.inl ⟨by rfl, ?hyg39_24⟩) (by assumption) ?_
      case hyg39_24 => (intro w hSw; (try dsimp only at hSw); go_simp; (try with_reducible rfl))
      try simp only [Act.put, List.setIfInBounds_toArray, List.set_cons_zero, List.set_cons_succ]
      refine regTake (i := 25) (v := ?vg39_25) rfl (by kernel_rfl) (by kernel_rfl) (by kernel_rfl) (fun _ _ _ h => h) (Or.inl ⟨by rfl, ?hyg39_25⟩) (by assumption) ?_
      case hyg39_25 => (intro w hSw; (try dsimp only at hSw); go_simp; (try with_reducible rfl))
      try simp only [Act.put, List.setIfInBounds_toArray, List.set_cons_zero, List.set_cons_succ]
      refine regTake (i := 26) (v := .bool true) rfl (by kernel_rfl) (by kernel_rfl) (by kernel_rfl) (fun _ _ _ h => h) (Or.inl ⟨by rfl, ?hyg39_26⟩) (by assumption) ?_
      case hyg39_26 => (intro w hSw; (try dsimp only at hSw); go_simp; (try with_reducible rfl))
      try simp only [Act.put, List.setIfInBounds_toArray, List.set_cons_zero, List.set_cons_succ]
      refine regTake (i := 27) (v := ?vg39_27) rfl (by kernel_rfl) (by kernel_rfl) (by kernel_rfl) (fun _ _ _ h => h) (Or.inl ⟨by rfl, ?hyg39_27⟩) (by assumption) ?_
      case hyg39_27 => (intro w hSw; (try dsimp only at hSw); go_simp; (try with_reducible rfl))
      try simp only [Act.put, List.setIfInBounds_toArray, List.set_cons_zero, List.set_cons_succ]
      refine regTake (i := 28) (v := ?vg39_28) rfl (by kernel_rfl) (by kernel_rfl) (by kernel_rfl) (fun _ _ _ h => h) (Or.inl ⟨by rfl, ?hyg39_28⟩) (by assumption) ?_
      case hyg39_28 => (intro w hSw; (try dsimp only at hSw); go_simp; (try with_reducible rfl))
      try simp only [Act.put, List.setIfInBounds_toArray, List.set_cons_zero, List.set_cons_succ]
      refine regTake (i := 29) (v := ?vg39_29) rfl (by kernel_rfl) (by kernel_rfl) (by kernel_rfl) (fun _ _ _ h => h) (Or.inl ⟨by rfl, ?hyg39_29⟩) (by assumption) ?_
      case hyg39_29 => (intro w hSw; (try dsimp only at hSw); go_simp; (try with_reducible rfl))
      try simp only [Act.put, List.setIfInBounds_toArray, List.set_cons_zero, List.set_cons_succ]
      refine regTake (i := 31) (v := ?vg39_31) rfl (by kernel_rfl) (by kernel_rfl) (by kernel_rfl) (fun _ _ _ h => h) (Or.inl ⟨by rfl, ?hyg39_31⟩) (by assumption) ?_
      case hyg39_31 => (intro w hSw; (try dsimp only at hSw); go_simp; (try with_reducible rfl))
      try simp only [Act.put, List.setIfInBounds_toArray, List.set_cons_zero, List.set_cons_succ]
      refine wpAnyH_ready (rs := [30]) (by kernel_rfl) (by simp) ?_
      refine regCons rfl (fun K hK => ?_)
      go_simp
      have hc46 := implSubtype t4a t4a _ _ _ _ _ (HA4a.out.below (below_trans hq18 (hkg39_2))) (HA4a.out.below (below_trans hq18 (hkg39_2)))
      rw [EQ26.out] at hc46
      refine hc46.mono ?_
      rintro e yg39_3 ⟨rfl, hyg39_3⟩
      have hkg39_3 := below_trans (hkg39_2) hyg39_3
      clear hc46
      refine hK.out _ _ ?_ (fun hS4 => ?_)
      · (refine (fun hB => ⟨hB, cell_keep xa4a hB, cell_keep xb4a hB, cell_keep xa4b hB, cell_keep xb4b hB⟩ : Below (z18).heap.size (z18) _ → _) ?_; exact hkg39_3)
      clear hK K hS3
      try simp only [Act.put, List.setIfInBounds_toArray, List.set_cons_zero, List.set_cons_succ]
      refine wpAnyH_ready (rs := [32]) (by kernel_rfl) (by simp) ?_
      refine regCons rfl (fun K hK => ?_)
      go_simp
      have hc49 := implTypeValid_any t4a _ _ _ (HA4a.out.below (below_trans hq18 (hkg39_3)))
      rw [EQ48.out] at hc49
      refine hc49.mono ?_
      rintro e yg39_4 ⟨rfl, hyg39_4⟩
      have hkg39_4 := below_trans (hkg39_3) hyg39_4
      clear hc49
      refine hK.out _ _ ?_ (fun hS5 => ?_)
      · (refine (fun hB => ⟨hB, cell_keep xa4a hB, cell_keep xb4a hB, cell_keep xa4b hB, cell_keep xb4b hB⟩ : Below (z18).heap.size (z18) _ → _) ?_; exact hkg39_4)
      clear hK K hS4
      try simp only [Act.put, List.setIfInBounds_toArray, List.set_cons_zero, List.set_cons_succ]
      refine regTake (i := 33) (v := ?vg39_33) rfl (by kernel_rfl) (by kernel_rfl) (by kernel_rfl) (fun _ _ _ h => h) (Or.inl ⟨by rfl, ?hyg39_33⟩) (by assumption) ?_
      case hyg39_33 => (intro w hSw; (try dsimp only at hSw); go_simp; (try with_reducible rfl))
      try simp only [Act.put, List.setIfInBounds_toArray, List.set_cons_zero, List.set_cons_succ]
      refine regTake (i := 34) (v := .bool true) rfl (by kernel_rfl) (by kernel_rfl) (by kernel_rfl) (fun _ _ _ h => h) (Or.inl ⟨by rfl, ?hyg39_34⟩) (by assumption) ?_
      case hyg39_34 => (intro w hSw; (try dsimp only at hSw); go_simp; (try with_reducible rfl))
      try simp only [Act.put, List.setIfInBounds_toArray, List.set_cons_zero, List.set_cons_succ]
      refine regTake (i := 35) (v := ?vg39_35) rfl (by kernel_rfl) (by kernel_rfl) (by kernel_rfl) (fun _ _ _ h => h) (Or.inl ⟨by rfl, ?hyg39_35⟩) (by assumption) ?_
      case hyg39_35 => (intro w hSw; (try dsimp only at hSw); go_simp; (try with_reducible rfl))
      try simp only [Act.put, List.setIfInBounds_toArray, List.set_cons_zero, List.set_cons_succ]
      refine wpAnyH_done (by kernel_rfl) ?_ _
      have hlg39_ := below_trans hq18 hkg39_4
      replace xa4a := cell_keep xa4a hkg39_4
      replace xb4a := cell_keep xb4a hkg39_4
      replace xa4b := cell_keep xa4b hkg39_4
      replace xb4b := cell_keep xb4b hkg39_4
      go_wp2_with fail
      go_ret
      exact ⟨rfl, below_trans HBL.out hlg39_⟩
  · have EQ7 := hid hq7
    clear hq7
    go_wp2_with fail
    have hc52 := implSubtype t4a t4b _ _ _ _ _ (HA4a.out.below h05) (HA4b.out.below h05)
    rw [EQ7.out] at hc52
    refine hc52.mono ?_
    rintro e z53 ⟨rfl, hz53⟩
    have hq53 := below_trans h05 hz53
    replace xa4a := cell_keep xa4a hz53
    replace xb4a := cell_keep xb4a hz53
    replace xa4b := cell_keep xa4b hz53
    replace xb4b := cell_keep xb4b hz53
    clear hc52 hz53
    rcases Bool.eq_false_or_eq_true (subOf 1 t4a t4b) with hq55 | hq55
    · have EQ55 := hid hq55
      clear hq55
      go_wp2_with fail
      have hc57 := implSubPositive t4a t4b _ _ _ _ _ (HA4a.out.below hq53) (HA4b.out.below hq53)
      rw [EQ55.out] at hc57
      refine hc57.mono ?_
      rintro e z58 ⟨rfl, hz58⟩
      have hq58 := below_trans hq53 hz58
      replace xa4a := cell_keep xa4a hz58
      replace xb4a := cell_keep xb4a hz58
      replace xa4b := cell_keep xa4b hz58
      replace xb4b := cell_keep xb4b hz58
      clear hc57 hz58
      have EQ60 := hid (show subOf (-1) t4a t4b = false from (by have h := EQ7.out; rw [subOf_factor, EQ55.out, Bool.true_and] at h; exact h))
      go_wp2_with fail
      have hc61 := implSubNegative t4a t4b _ _ _ _ _ (HA4a.out.below hq58) (HA4b.out.below hq58)
      rw [EQ60.out] at hc61
      refine hc61.mono ?_
      rintro e z62 ⟨rfl, hz62⟩
      have hq62 := below_trans hq58 hz62
      replace xa4a := cell_keep xa4a hz62
      replace xb4a := cell_keep xb4a hz62
      replace xa4b := cell_keep xa4b hz62
      replace xb4b := cell_keep xb4b hz62
      clear hc61 hz62
      rcases Bool.eq_false_or_eq_true (subOf 0 t4a t4a) with hq70 | hq70
      · have EQ70 := hid hq70
        clear hq70
        have EQ80 := hid (show vld t4a = true from (by have h := EQ70.out; rw [subOf_self] at h; exact h))
        go_wp2_with fail
        refine wp_region_held_drew (S := (fun w' => Below (z62).heap.size (z62) w' ∧ w'.cell? ⟨z4.heap.size, 0, none⟩ = some (.int .i64 k4a) ∧ w'.cell? ⟨z4.heap.size, 1, none⟩ = some (.slice a4a n4a c4a) ∧ w'.cell? ⟨z4.heap.size + 1, 0, none⟩ = some (.int .i64 k4b) ∧ w'.cell? ⟨z4.heap.size + 1, 1, none⟩ = some (.slice a4b n4b c4b))) (by kernel_rfl) ?_ (fun hS0 => ?_)
        · (refine (fun hB => ⟨hB, cell_keep xa4a hB, cell_keep xb4a hB, cell_keep xa4b hB, cell_keep xb4b hB⟩ : Below (z62).heap.size (z62) _ → _) ?_; exact below_drew _)
        refine regTake (i := 0) (v := ?vg71_0) rfl (by kernel_rfl) (by kernel_rfl) (by kernel_rfl) (fun _ _ _ h => h) (Or.inl ⟨by rfl, ?hyg71_0⟩) (by assumption) ?_
        case hyg71_0 => (intro w hSw; (try dsimp only at hSw); go_simp; (try with_reducible rfl))
        try simp only [Act.put, List.setIfInBounds_toArray, List.set_cons_zero, List.set_cons_succ]
        refine regTake (i := 1) (v := ?vg71_1) rfl (by kernel_rfl) (by kernel_rfl) (by kernel_rfl) (fun _ _ _ h => h) (Or.inl ⟨by rfl, ?hyg71_1⟩) (by assumption) ?_
        case hyg71_1 => (intro w hSw; (try dsimp only at hSw); go_simp; (try with_reducible rfl))
        try simp only [Act.put, List.setIfInBounds_toArray, List.set_cons_zero, List.set_cons_succ]
        refine regTake (i := 2) (v := ?vg71_2) rfl (by kernel_rfl) (by kernel_rfl) (by kernel_rfl) (fun _ _ _ h => h) (Or.inl ⟨by rfl, ?hyg71_2⟩) (by assumption) ?_
        case hyg71_2 => (intro w hSw; (try dsimp only at hSw); go_simp; (try with_reducible rfl))
        try simp only [Act.put, List.setIfInBounds_toArray, List.set_cons_zero, List.set_cons_succ]
        refine wpAnyH_ready (rs := [3]) (by kernel_rfl) (by simp) ?_
        refine regCons rfl (fun K hK => ?_)
        go_simp
        have hc72 := specSubtype t4a t4b _ _ _ _ _ (HA4a.out.below (below_trans hq62 (below_drew (z62)))) (HA4b.out.below (below_trans hq62 (below_drew (z62))))
        rw [EQ7.out] at hc72
        refine hc72.mono ?_
        rintro e yg71_0 ⟨rfl, hyg71_0⟩
        have hkg71_0 := below_trans (below_drew (z62)) hyg71_0
        clear hc72
        refine hK.out _ _ ?_ (fun hS1 => ?_)
        · (refine (fun hB => ⟨hB, cell_keep xa4a hB, cell_keep xb4a hB, cell_keep xa4b hB, cell_keep xb4b hB⟩ : Below (z62).heap.size (z62) _ → _) ?_; exact hkg71_0)
        clear hK K hS0
        try simp only [Act.put, List.setIfInBounds_toArray, List.set_cons_zero, List.set_cons_succ]
        refine regTake (i := 4) (v := ?vg71_4) rfl (by kernel_rfl) (by kernel_rfl) (by kernel_rfl) (fun _ _ _ h => h) (Or.inl ⟨by rfl, ?hyg71_4⟩) (by assumption) ?_
        case hyg71_4 => (intro w hSw; (try dsimp only at hSw); go_simp; (try with_reducible rfl))
        try simp only [Act.put, List.setIfInBounds_toArray, List.set_cons_zero, List.set_cons_succ]
        refine regTake (i := 5) (v := ?vg71_5) rfl (by kernel_rfl) (by kernel_rfl) (by kernel_rfl) (fun _ _ _ h => h) (Or.inl ⟨by rfl, ?hyg71_5⟩) (by assumption) ?_
        case hyg71_5 => (intro w hSw; (try dsimp only at hSw); go_simp; (try with_reducible rfl))
        try simp only [Act.put, List.setIfInBounds_toArray, List.set_cons_zero, List.set_cons_succ]
        refine regTake (i := 6) (v := ?vg71_6) rfl (by kernel_rfl) (by kernel_rfl) (by kernel_rfl) (fun _ _ _ h => h) (Or.inl ⟨by rfl, ?hyg71_6⟩) (by assumption) ?_
        case hyg71_6 => (intro w hSw; (try dsimp only at hSw); go_simp; (try with_reducible rfl))
        try simp only [Act.put, List.setIfInBounds_toArray, List.set_cons_zero, List.set_cons_succ]
        refine regTake (i := 7) (v := ?vg71_7) rfl (by kernel_rfl) (by kernel_rfl) (by kernel_rfl) (fun _ _ _ h => h) (Or.inl ⟨by rfl, ?hyg71_7⟩) (by assumption) ?_
        case hyg71_7 => (intro w hSw; (try dsimp only at hSw); go_simp; (try with_reducible rfl))
        try simp only [Act.put, List.setIfInBounds_toArray, List.set_cons_zero, List.set_cons_succ]
        refine regTake (i := 8) (v := ?vg71_8) rfl (by kernel_rfl) (by kernel_rfl) (by kernel_rfl) (fun _ _ _ h => h) (Or.inl ⟨by rfl, ?hyg71_8⟩) (by assumption) ?_
        case hyg71_8 => (intro w hSw; (try dsimp only at hSw); go_simp; (try with_reducible rfl))
        try simp only [Act.put, List.setIfInBounds_toArray, List.set_cons_zero, List.set_cons_succ]
        refine wpAnyH_ready (rs := [9]) (by kernel_rfl) (by simp) ?_
        refine regCons rfl (fun K hK => ?_)
        go_simp
        have hc74 := specSubPositive t4a t4b _ _ _ _ _ (HA4a.out.below (below_trans hq62 (hkg71_0))) (HA4b.out.below (below_trans hq62 (hkg71_0)))
        rw [EQ55.out] at hc74
        refine hc74.mono ?_
        rintro e yg71_1 ⟨rfl, hyg71_1⟩
        have hkg71_1 := below_trans (hkg71_0) hyg71_1
        clear hc74
        refine hK.out _ _ ?_ (fun hS2 => ?_)
        · (refine (fun hB => ⟨hB, cell_keep xa4a hB, cell_keep xb4a hB, cell_keep xa4b hB, cell_keep xb4b hB⟩ : Below (z62).heap.size (z62) _ → _) ?_; exact hkg71_1)
        clear hK K hS1
        try simp only [Act.put, List.setIfInBounds_toArray, List.set_cons_zero, List.set_cons_succ]
        refine regTake (i := 10) (v := ?vg71_10) rfl (by kernel_rfl) (by kernel_rfl) (by kernel_rfl) (fun _ _ _ h => h) (Or.inl ⟨by rfl, ?hyg71_10⟩) (by assumption) ?_
        case hyg71_10 => (intro w hSw; (try dsimp only at hSw); go_simp; (try with_reducible rfl))
        try simp only [Act.put, List.setIfInBounds_toArray, List.set_cons_zero, List.set_cons_succ]
        refine regTake (i := 11) (v := .bool true) rfl (by kernel_rfl) (by kernel_rfl) (by kernel_rfl) (fun _ _ _ h => h) (Or.inl ⟨by rfl, ?hyg71_11⟩) (by assumption) ?_
        case hyg71_11 => (intro w hSw; (try dsimp only at hSw); go_simp; (try with_reducible rfl))
        try simp only [Act.put, List.setIfInBounds_toArray, List.set_cons_zero, List.set_cons_succ]
        refine regTake (i := 12) (v := ?vg71_12) rfl (by kernel_rfl) (by kernel_rfl) (by kernel_rfl) (fun _ _ _ h => h) (Or.inl ⟨by rfl, ?hyg71_12⟩) (by assumption) ?_
        case hyg71_12 => (intro w hSw; (try dsimp only at hSw); go_simp; (try with_reducible rfl))
        try simp only [Act.put, List.setIfInBounds_toArray, List.set_cons_zero, List.set_cons_succ]
        refine regTake (i := 13) (v := ?vg71_13) rfl (by kernel_rfl) (by kernel_rfl) (by kernel_rfl) (fun _ _ _ h => h) (Or.inl ⟨by rfl, ?hyg71_13⟩) (by assumption) ?_
        case hyg71_13 => (intro w hSw; (try dsimp only at hSw); go_simp; (try with_reducible rfl))
        try simp only [Act.put, List.setIfInBounds_toArray, List.set_cons_zero, List.set_cons_succ]
        refine regTake (i := 14) (v := ?vg71_14) rfl (by kernel_rfl) (by kernel_rfl) (by kernel_rfl) (fun _ _ _ h => h) (Or.inl ⟨by rfl, ?hyg71_14⟩) (by assumption) ?_
        case hyg71_14 => (intro w hSw; (try dsimp only at hSw); go_simp; (try with_reducible rfl))
        try simp only [Act.put, List.setIfInBounds_toArray, List.set_cons_zero, List.set_cons_succ]
        refine regTake (i := 15) (v := ?vg71_15) rfl (by kernel_rfl) (by kernel_rfl) (by kernel_rfl) (fun _ _ _ h => h) (Or.inl ⟨by rfl, ?hyg71_15⟩) (by assumption) ?_
        case hyg71_15 => (intro w hSw; (try dsimp only at hSw); go_simp; (try with_reducible rfl))
        try simp only [Act.put, List.setIfInBounds_toArray, List.set_cons_zero, List.set_cons_succ]
        refine wpAnyH_ready (rs := [16]) (by kernel_rfl) (by simp) ?_
        refine regCons rfl (fun K hK => ?_)
        go_simp
        have hc76 := specSubNegative t4a t4b _ _ _ _ _ (HA4a.out.below (below_trans hq62 (hkg71_1))) (HA4b.out.below (below_trans hq62 (hkg71_1)))
        rw [EQ60.out] at hc76
        refine hc76.mono ?_
        rintro e yg71_2 ⟨rfl, hyg71_2⟩
        have hkg71_2 := below_trans (hkg71_1) hyg71_2
        clear hc76
        refine hK.out _ _ ?_ (fun hS3 => ?_)
        · (refine (fun hB => ⟨hB, cell_keep xa4a hB, cell_keep xb4a hB, cell_keep xa4b hB, cell_keep xb4b hB⟩ : Below (z62).heap.size (z62) _ → _) ?_; exact hkg71_2)
        clear hK K hS2
        try simp only [Act.put, List.setIfInBounds_toArray, List.set_cons_zero, List.set_cons_succ]
        refine regTake (i := 17) (v := ?vg71_17) rfl (by kernel_rfl) (by kernel_rfl) (by kernel_rfl) (fun _ _ _ h => h) (Or.inl ⟨by rfl, ?hyg71_17⟩) (by assumption) ?_
        case hyg71_17 => (intro w hSw; (try dsimp only at hSw); go_simp; (try with_reducible rfl))
        try simp only [Act.put, List.setIfInBounds_toArray, List.set_cons_zero, List.set_cons_succ]
        refine regTake (i := 18) (v := .bool true) rfl (by kernel_rfl) (by kernel_rfl) (by kernel_rfl) (fun _ _ _ h => h) (Or.inl ⟨by rfl, ?hyg71_18⟩) (by assumption) ?_
        case hyg71_18 => (intro w hSw; (try dsimp only at hSw); go_simp; (try with_reducible rfl))
        try simp only [Act.put, List.setIfInBounds_toArray, List.set_cons_zero, List.set_cons_succ]
        refine regTake (i := 19) (v := ?vg71_19) rfl (by kernel_rfl) (by kernel_rfl) (by kernel_rfl) (fun _ _ _ h => h) (Or.inl ⟨by rfl, ?hyg71_19⟩) (by assumption) ?_
        case hyg71_19 => (intro w hSw; (try dsimp only at hSw); go_simp; (try with_reducible rfl))
        try simp only [Act.put, List.setIfInBounds_toArray, List.set_cons_zero, List.set_cons_succ]
        refine regTake (i := 20) (v := ?vg71_20) rfl (by kernel_rfl) (by kernel_rfl) (by kernel_rfl) (fun _ _ _ h => h) (Or.inl ⟨by rfl, ?hyg71_20⟩) (by assumption) ?_
        case hyg71_20 => (intro w hSw; (try dsimp only at hSw); go_simp; (try with_reducible rfl))
        try simp only [Act.put, List.setIfInBounds_toArray, List.set_cons_zero, List.set_cons_succ]
        refine regTake (i := 21) (v := ?vg71_21) rfl (by kernel_rfl) (by kernel_rfl) (by kernel_rfl) (fun _ _ _ h => h) (Or.inl ⟨by rfl, ?hyg71_21⟩) (by assumption) ?_
        case hyg71_21 => (intro w hSw; (try dsimp only at hSw); go_simp; (try with_reducible rfl))
        try simp only [Act.put, List.setIfInBounds_toArray, List.set_cons_zero, List.set_cons_succ]
        refine regTake (i := 22) (v := ?vg71_22) rfl (by kernel_rfl) (by kernel_rfl) (by kernel_rfl) (fun _ _ _ h => h) (Or.inl ⟨by rfl, ?hyg71_22⟩) (by assumption) ?_
        case hyg71_22 => (intro w hSw; (try dsimp only at hSw); go_simp; (try with_reducible rfl))
        try simp only [Act.put, List.setIfInBounds_toArray, List.set_cons_zero, List.set_cons_succ]
        refine regTake (i := 23) (v := ?vg71_23) rfl (by kernel_rfl) (by kernel_rfl) (by kernel_rfl) (fun _ _ _ h => h) (Or.inl ⟨by rfl, ?hyg71_23⟩) (by assumption) ?_
        case hyg71_23 => (intro w hSw; (try dsimp only at hSw); go_simp; (try with_reducible rfl))
        try simp only [Act.put, List.setIfInBounds_toArray, List.set_cons_zero, List.set_cons_succ]
        refine regTake (i := 24) (v := .bool false) rfl (by kernel_rfl) (by kernel_rfl) (by kernel_rfl) (fun _ _ _ h => h) (Or.inl ⟨by rfl, ?hyg71_24⟩) (by assumption) ?_
        case hyg71_24 => (intro w hSw; (try dsimp only at hSw); go_simp; (try with_reducible rfl))
        try simp only [Act.put, List.setIfInBounds_toArray, List.set_cons_zero, List.set_cons_succ]
        refine regTake (i := 25) (v := ?vg71_25) rfl (by kernel_rfl) (by kernel_rfl) (by kernel_rfl) (fun _ _ _ h => h) (Or.inl ⟨by rfl, ?hyg71_25⟩) (by assumption) ?_
        case hyg71_25 => (intro w hSw; (try dsimp only at hSw); go_simp; (try with_reducible rfl))
        try simp only [Act.put, List.setIfInBounds_toArray, List.set_cons_zero, List.set_cons_succ]
        refine regTake (i := 26) (v := .bool true) rfl (by kernel_rfl) (by kernel_rfl) (by kernel_rfl) (fun _ _ _ h => h) (Or.inl ⟨by rfl, ?hyg71_26⟩) (by assumption) ?_
        case hyg71_26 => (intro w hSw; (try dsimp only at hSw); go_simp; (try with_reducible rfl))
        try simp only [Act.put, List.setIfInBounds_toArray, List.set_cons_zero, List.set_cons_succ]
        refine regTake (i := 27) (v := ?vg71_27) rfl (by kernel_rfl) (by kernel_rfl) (by kernel_rfl) (fun _ _ _ h => h) (Or.inl ⟨by rfl, ?hyg71_27⟩) (by assumption) ?_
        case hyg71_27 => (intro w hSw; (try dsimp only at hSw); go_simp; (try with_reducible rfl))
        try simp only [Act.put, List.setIfInBounds_toArray, List.set_cons_zero, List.set_cons_succ]
        refine regTake (i := 28) (v := ?vg71_28) rfl (by kernel_rfl) (by kernel_rfl) (by kernel_rfl) (fun _ _ _ h => h) (Or.inl ⟨by rfl, ?hyg71_28⟩) (by assumption) ?_
        case hyg71_28 => (intro w hSw; (try dsimp only at hSw); go_simp; (try with_reducible rfl))
        try simp only [Act.put, List.setIfInBounds_toArray, List.set_cons_zero, List.set_cons_succ]
        refine regTake (i := 29) (v := ?vg71_29) rfl (by kernel_rfl) (by kernel_rfl) (by kernel_rfl) (fun _ _ _ h => h) (Or.inl ⟨by rfl, ?hyg71_29⟩) (by assumption) ?_
        case hyg71_29 => (intro w hSw; (try dsimp only at hSw); go_simp; (try with_reducible rfl))
        try simp only [Act.put, List.setIfInBounds_toArray, List.set_cons_zero, List.set_cons_succ]
        refine regTake (i := 31) (v := ?vg71_31) rfl (by kernel_rfl) (by kernel_rfl) (by kernel_rfl) (fun _ _ _ h => h) (Or.inl ⟨by rfl, ?hyg71_31⟩) (by assumption) ?_
        case hyg71_31 => (intro w hSw; (try dsimp only at hSw); go_simp; (try with_reducible rfl))
        try simp only [Act.put, List.setIfInBounds_toArray, List.set_cons_zero, List.set_cons_succ]
        refine wpAnyH_ready (rs := [30]) (by kernel_rfl) (by simp) ?_
        refine regCons rfl (fun K hK => ?_)
        go_simp
        have hc78 := implSubtype t4a t4a _ _ _ _ _ (HA4a.out.below (below_trans hq62 (hkg71_2))) (HA4a.out.below (below_trans hq62 (hkg71_2)))
        rw [EQ70.out] at hc78
        refine hc78.mono ?_
        rintro e yg71_3 ⟨rfl, hyg71_3⟩
        have hkg71_3 := below_trans (hkg71_2) hyg71_3
        clear hc78
        refine hK.out _ _ ?_ (fun hS4 => ?_)
        · (refine (fun hB => ⟨hB, cell_keep xa4a hB, cell_keep xb4a hB, cell_keep xa4b hB, cell_keep xb4b hB⟩ : Below (z62).heap.size (z62) _ → _) ?_; exact hkg71_3)
        clear hK K hS3
        try simp only [Act.put, List.setIfInBounds_toArray, List.set_cons_zero, List.set_cons_succ]
        refine wpAnyH_ready (rs := [32]) (by kernel_rfl) (by simp) ?_
        refine regCons rfl (fun K hK => ?_)
        go_simp
        have hc81 := implTypeValid_any t4a _ _ _ (HA4a.out.below (below_trans hq62 (hkg71_3)))
        rw [EQ80.out] at hc81
        refine hc81.mono ?_
        rintro e yg71_4 ⟨rfl, hyg71_4⟩
        have hkg71_4 := below_trans (hkg71_3) hyg71_4
        clear hc81
        refine hK.out _ _ ?_ (fun hS5 => ?_)
        · (refine (fun hB => ⟨hB, cell_keep xa4a hB, cell_keep xb4a hB, cell_keep xa4b hB, cell_keep xb4b hB⟩ : Below (z62).heap.size (z62) _ → _) ?_; exact hkg71_4)
        clear hK K hS4
        try simp only [Act.put, List.setIfInBounds_toArray, List.set_cons_zero, List.set_cons_succ]
        refine regTake (i := 33) (v := ?vg71_33) rfl (by kernel_rfl) (by kernel_rfl) (by kernel_rfl) (fun _ _ _ h => h) (Or.inl ⟨by rfl, ?hyg71_33⟩) (by assumption) ?_
        case hyg71_33 => (intro w hSw; (try dsimp only at hSw); go_simp; (try with_reducible rfl))
        try simp only [Act.put, List.setIfInBounds_toArray, List.set_cons_zero, List.set_cons_succ]
        refine regTake (i := 34) (v := .bool true) rfl (by kernel_rfl) (by kernel_rfl) (by kernel_rfl) (fun _ _ _ h => h) (Or.inl ⟨by rfl, ?hyg71_34⟩) (by assumption) ?_
        case hyg71_34 => (intro w hSw; (try dsimp only at hSw); go_simp; (try with_reducible rfl))
        try simp only [Act.put, List.setIfInBounds_toArray, List.set_cons_zero, List.set_cons_succ]
        refine regTake (i := 35) (v := ?vg71_35) rfl (by kernel_rfl) (by kernel_rfl) (by kernel_rfl) (fun _ _ _ h => h) (Or.inl ⟨by rfl, ?hyg71_35⟩) (by assumption) ?_
        case hyg71_35 => (intro w hSw; (try dsimp only at hSw); go_simp; (try with_reducible rfl))
        try simp only [Act.put, List.setIfInBounds_toArray, List.set_cons_zero, List.set_cons_succ]
        refine wpAnyH_done (by kernel_rfl) ?_ _
        have hlg71_ := below_trans hq62 hkg71_4
        replace xa4a := cell_keep xa4a hkg71_4
        replace xb4a := cell_keep xb4a hkg71_4
        replace xa4b := cell_keep xa4b hkg71_4
        replace xb4b := cell_keep xb4b hkg71_4
        go_wp2_with fail
        go_ret
        exact ⟨rfl, below_trans HBL.out hlg71_⟩
      · have EQ70 := hid hq70
        clear hq70
        have EQ92 := hid (show vld t4a = false from (by have h := EQ70.out; rw [subOf_self] at h; exact h))
        go_wp2_with fail
        refine wp_region_held_drew (S := (fun w' => Below (z62).heap.size (z62) w' ∧ w'.cell? ⟨z4.heap.size, 0, none⟩ = some (.int .i64 k4a) ∧ w'.cell? ⟨z4.heap.size, 1, none⟩ = some (.slice a4a n4a c4a) ∧ w'.cell? ⟨z4.heap.size + 1, 0, none⟩ = some (.int .i64 k4b) ∧ w'.cell? ⟨z4.heap.size + 1, 1, none⟩ = some (.slice a4b n4b c4b))) (by kernel_rfl) ?_ (fun hS0 => ?_)
        · (refine (fun hB => ⟨hB, cell_keep xa4a hB, cell_keep xb4a hB, cell_keep xa4b hB, cell_keep xb4b hB⟩ : Below (z62).heap.size (z62) _ → _) ?_; exact below_drew _)
        refine regTake (i := 0) (v := ?vg83_0) rfl (by kernel_rfl) (by kernel_rfl) (by kernel_rfl) (fun _ _ _ h => h) (Or.inl ⟨by rfl, ?hyg83_0⟩) (by assumption) ?_
        case hyg83_0 => (intro w hSw; (try dsimp only at hSw); go_simp; (try with_reducible rfl))
        try simp only [Act.put, List.setIfInBounds_toArray, List.set_cons_zero, List.set_cons_succ]
        refine regTake (i := 1) (v := ?vg83_1) rfl (by kernel_rfl) (by kernel_rfl) (by kernel_rfl) (fun _ _ _ h => h) (Or.inl ⟨by rfl, ?hyg83_1⟩) (by assumption) ?_
        case hyg83_1 => (intro w hSw; (try dsimp only at hSw); go_simp; (try with_reducible rfl))
        try simp only [Act.put, List.setIfInBounds_toArray, List.set_cons_zero, List.set_cons_succ]
        refine regTake (i := 2) (v := ?vg83_2) rfl (by kernel_rfl) (by kernel_rfl) (by kernel_rfl) (fun _ _ _ h => h) (Or.inl ⟨by rfl, ?hyg83_2⟩) (by assumption) ?_
        case hyg83_2 => (intro w hSw; (try dsimp only at hSw); go_simp; (try with_reducible rfl))
        try simp only [Act.put, List.setIfInBounds_toArray, List.set_cons_zero, List.set_cons_succ]
        refine wpAnyH_ready (rs := [3]) (by kernel_rfl) (by simp) ?_
        refine regCons rfl (fun K hK => ?_)
        go_simp
        have hc84 := specSubtype t4a t4b _ _ _ _ _ (HA4a.out.below (below_trans hq62 (below_drew (z62)))) (HA4b.out.below (below_trans hq62 (below_drew (z62))))
        rw [EQ7.out] at hc84
        refine hc84.mono ?_
        rintro e yg83_0 ⟨rfl, hyg83_0⟩
        have hkg83_0 := below_trans (below_drew (z62)) hyg83_0
        clear hc84
        refine hK.out _ _ ?_ (fun hS1 => ?_)
        · (refine (fun hB => ⟨hB, cell_keep xa4a hB, cell_keep xb4a hB, cell_keep xa4b hB, cell_keep xb4b hB⟩ : Below (z62).heap.size (z62) _ → _) ?_; exact hkg83_0)
        clear hK K hS0
        try simp only [Act.put, List.setIfInBounds_toArray, List.set_cons_zero, List.set_cons_succ]
        refine regTake (i := 4) (v := ?vg83_4) rfl (by kernel_rfl) (by kernel_rfl) (by kernel_rfl) (fun _ _ _ h => h) (Or.inl ⟨by rfl, ?hyg83_4⟩) (by assumption) ?_
        case hyg83_4 => (intro w hSw; (try dsimp only at hSw); go_simp; (try with_reducible rfl))
        try simp only [Act.put, List.setIfInBounds_toArray, List.set_cons_zero, List.set_cons_succ]
        refine regTake (i := 5) (v := ?vg83_5) rfl (by kernel_rfl) (by kernel_rfl) (by kernel_rfl) (fun _ _ _ h => h) (Or.inl ⟨by rfl, ?hyg83_5⟩) (by assumption) ?_
        case hyg83_5 => (intro w hSw; (try dsimp only at hSw); go_simp; (try with_reducible rfl))
        try simp only [Act.put, List.setIfInBounds_toArray, List.set_cons_zero, List.set_cons_succ]
        refine regTake (i := 6) (v := ?vg83_6) rfl (by kernel_rfl) (by kernel_rfl) (by kernel_rfl) (fun _ _ _ h => h) (Or.inl ⟨by rfl, ?hyg83_6⟩) (by assumption) ?_
        case hyg83_6 => (intro w hSw; (try dsimp only at hSw); go_simp; (try with_reducible rfl))
        try simp only [Act.put, List.setIfInBounds_toArray, List.set_cons_zero, List.set_cons_succ]
        refine regTake (i := 7) (v := ?vg83_7) rfl (by kernel_rfl) (by kernel_rfl) (by kernel_rfl) (fun _ _ _ h => h) (Or.inl ⟨by rfl, ?hyg83_7⟩) (by assumption) ?_
        case hyg83_7 => (intro w hSw; (try dsimp only at hSw); go_simp; (try with_reducible rfl))
        try simp only [Act.put, List.setIfInBounds_toArray, List.set_cons_zero, List.set_cons_succ]
        refine regTake (i := 8) (v := ?vg83_8) rfl (by kernel_rfl) (by kernel_rfl) (by kernel_rfl) (fun _ _ _ h => h) (Or.inl ⟨by rfl, ?hyg83_8⟩) (by assumption) ?_
        case hyg83_8 => (intro w hSw; (try dsimp only at hSw); go_simp; (try with_reducible rfl))
        try simp only [Act.put, List.setIfInBounds_toArray, List.set_cons_zero, List.set_cons_succ]
        refine wpAnyH_ready (rs := [9]) (by kernel_rfl) (by simp) ?_
        refine regCons rfl (fun K hK => ?_)
        go_simp
        have hc86 := specSubPositive t4a t4b _ _ _ _ _ (HA4a.out.below (below_trans hq62 (hkg83_0))) (HA4b.out.below (below_trans hq62 (hkg83_0)))
        rw [EQ55.out] at hc86
        refine hc86.mono ?_
        rintro e yg83_1 ⟨rfl, hyg83_1⟩
        have hkg83_1 := below_trans (hkg83_0) hyg83_1
        clear hc86
        refine hK.out _ _ ?_ (fun hS2 => ?_)
        · (refine (fun hB => ⟨hB, cell_keep xa4a hB, cell_keep xb4a hB, cell_keep xa4b hB, cell_keep xb4b hB⟩ : Below (z62).heap.size (z62) _ → _) ?_; exact hkg83_1)
        clear hK K hS1
        try simp only [Act.put, List.setIfInBounds_toArray, List.set_cons_zero, List.set_cons_succ]
        refine regTake (i := 10) (v := ?vg83_10) rfl (by kernel_rfl) (by kernel_rfl) (by kernel_rfl) (fun _ _ _ h => h) (Or.inl ⟨by rfl, ?hyg83_10⟩) (by assumption) ?_
        case hyg83_10 => (intro w hSw; (try dsimp only at hSw); go_simp; (try with_reducible rfl))
        try simp only [Act.put, List.setIfInBounds_toArray, List.set_cons_zero, List.set_cons_succ]
        refine regTake (i := 11) (v := .bool true) rfl (by kernel_rfl) (by kernel_rfl) (by kernel_rfl) (fun _ _ _ h => h) (Or.inl ⟨by rfl, ?hyg83_11⟩) (by assumption) ?_
        case hyg83_11 => (intro w hSw; (try dsimp only at hSw); go_simp; (try with_reducible rfl))
        try simp only [Act.put, List.setIfInBounds_toArray, List.set_cons_zero, List.set_cons_succ]
        refine regTake (i := 12) (v := ?vg83_12) rfl (by kernel_rfl) (by kernel_rfl) (by kernel_rfl) (fun _ _ _ h => h) (Or.inl ⟨by rfl, ?hyg83_12⟩) (by assumption) ?_
        case hyg83_12 => (intro w hSw; (try dsimp only at hSw); go_simp; (try with_reducible rfl))
        try simp only [Act.put, List.setIfInBounds_toArray, List.set_cons_zero, List.set_cons_succ]
        refine regTake (i := 13) (v := ?vg83_13) rfl (by kernel_rfl) (by kernel_rfl) (by kernel_rfl) (fun _ _ _ h => h) (Or.inl ⟨by rfl, ?hyg83_13⟩) (by assumption) ?_
        case hyg83_13 => (intro w hSw; (try dsimp only at hSw); go_simp; (try with_reducible rfl))
        try simp only [Act.put, List.setIfInBounds_toArray, List.set_cons_zero, List.set_cons_succ]
        refine regTake (i := 14) (v := ?vg83_14) rfl (by kernel_rfl) (by kernel_rfl) (by kernel_rfl) (fun _ _ _ h => h) (Or.inl ⟨by rfl, ?hyg83_14⟩) (by assumption) ?_
        case hyg83_14 => (intro w hSw; (try dsimp only at hSw); go_simp; (try with_reducible rfl))
        try simp only [Act.put, List.setIfInBounds_toArray, List.set_cons_zero, List.set_cons_succ]
        refine regTake (i := 15) (v := ?vg83_15) rfl (by kernel_rfl) (by kernel_rfl) (by kernel_rfl) (fun _ _ _ h => h) (Or.inl ⟨by rfl, ?hyg83_15⟩) (by assumption) ?_
        case hyg83_15 => (intro w hSw; (try dsimp only at hSw); go_simp; (try with_reducible rfl))
        try simp only [Act.put, List.setIfInBounds_toArray, List.set_cons_zero, List.set_cons_succ]
        refine wpAnyH_ready (rs := [16]) (by kernel_rfl) (by simp) ?_
        refine regCons rfl (fun K hK => ?_)
        go_simp
        have hc88 := specSubNegative t4a t4b _ _ _ _ _ (HA4a.out.below (below_trans hq62 (hkg83_1))) (HA4b.out.below (below_trans hq62 (hkg83_1)))
        rw [EQ60.out] at hc88
        refine hc88.mono ?_
        rintro e yg83_2 ⟨rfl, hyg83_2⟩
        have hkg83_2 := below_trans (hkg83_1) hyg83_2
        clear hc88
        refine hK.out _ _ ?_ (fun hS3 => ?_)
        · (refine (fun hB => ⟨hB, cell_keep xa4a hB, cell_keep xb4a hB, cell_keep xa4b hB, cell_keep xb4b hB⟩ : Below (z62).heap.size (z62) _ → _) ?_; exact hkg83_2)
        clear hK K hS2
        try simp only [Act.put, List.setIfInBounds_toArray, List.set_cons_zero, List.set_cons_succ]
        refine regTake (i := 17) (v := ?vg83_17) rfl (by kernel_rfl) (by kernel_rfl) (by kernel_rfl) (fun _ _ _ h => h) (Or.inl ⟨by rfl, ?hyg83_17⟩) (by assumption) ?_
        case hyg83_17 => (intro w hSw; (try dsimp only at hSw); go_simp; (try with_reducible rfl))
        try simp only [Act.put, List.setIfInBounds_toArray, List.set_cons_zero, List.set_cons_succ]
        refine regTake (i := 18) (v := .bool true) rfl (by kernel_rfl) (by kernel_rfl) (by kernel_rfl) (fun _ _ _ h => h) (Or.inl ⟨by rfl, ?hyg83_18⟩) (by assumption) ?_
        case hyg83_18 => (intro w hSw; (try dsimp only at hSw); go_simp; (try with_reducible rfl))
        try simp only [Act.put, List.setIfInBounds_toArray, List.set_cons_zero, List.set_cons_succ]
        refine regTake (i := 19) (v := ?vg83_19) rfl (by kernel_rfl) (by kernel_rfl) (by kernel_rfl) (fun _ _ _ h => h) (Or.inl ⟨by rfl, ?hyg83_19⟩) (by assumption) ?_
        case hyg83_19 => (intro w hSw; (try dsimp only at hSw); go_simp; (try with_reducible rfl))
        try simp only [Act.put, List.setIfInBounds_toArray, List.set_cons_zero, List.set_cons_succ]
        refine regTake (i := 20) (v := ?vg83_20) rfl (by kernel_rfl) (by kernel_rfl) (by kernel_rfl) (fun _ _ _ h => h) (Or.inl ⟨by rfl, ?hyg83_20⟩) (by assumption) ?_
        case hyg83_20 => (intro w hSw; (try dsimp only at hSw); go_simp; (try with_reducible rfl))
        try simp only [Act.put, List.setIfInBounds_toArray, List.set_cons_zero, List.set_cons_succ]
        refine regTake (i := 21) (v := ?vg83_21) rfl (by kernel_rfl) (by kernel_rfl) (by kernel_rfl) (fun _ _ _ h => h) (Or.inl ⟨by rfl, ?hyg83_21⟩) (by assumption) ?_
        case hyg83_21 => (intro w hSw; (try dsimp only at hSw); go_simp; (try with_reducible rfl))
        try simp only [Act.put, List.setIfInBounds_toArray, List.set_cons_zero, List.set_cons_succ]
        refine regTake (i := 22) (v := ?vg83_22) rfl (by kernel_rfl) (by kernel_rfl) (by kernel_rfl) (fun _ _ _ h => h) (Or.inl ⟨by rfl, ?hyg83_22⟩) (by assumption) ?_
        case hyg83_22 => (intro w hSw; (try dsimp only at hSw); go_simp; (try with_reducible rfl))
        try simp only [Act.put, List.setIfInBounds_toArray, List.set_cons_zero, List.set_cons_succ]
        refine regTake (i := 23) (v := ?vg83_23) rfl (by kernel_rfl) (by kernel_rfl) (by kernel_rfl) (fun _ _ _ h => h) (Or.inl ⟨by rfl, ?hyg83_23⟩) (by assumption) ?_
        case hyg83_23 => (intro w hSw; (try dsimp only at hSw); go_simp; (try with_reducible rfl))
        try simp only [Act.put, List.setIfInBounds_toArray, List.set_cons_zero, List.set_cons_succ]
        refine regTake (i := 24) (v := .bool false) rfl (by kernel_rfl) (by kernel_rfl) (by kernel_rfl) (fun _ _ _ h => h) (Or.inl ⟨by rfl, ?hyg83_24⟩) (by assumption) ?_
        case hyg83_24 => (intro w hSw; (try dsimp only at hSw); go_simp; (try with_reducible rfl))
        try simp only [Act.put, List.setIfInBounds_toArray, List.set_cons_zero, List.set_cons_succ]
        refine regTake (i := 25) (v := ?vg83_25) rfl (by kernel_rfl) (by kernel_rfl) (by kernel_rfl) (fun _ _ _ h => h) (Or.inl ⟨by rfl, ?hyg83_25⟩) (by assumption) ?_
        case hyg83_25 => (intro w hSw; (try dsimp only at hSw); go_simp; (try with_reducible rfl))
        try simp only [Act.put, List.setIfInBounds_toArray, List.set_cons_zero, List.set_cons_succ]
        refine regTake (i := 26) (v := .bool true) rfl (by kernel_rfl) (by kernel_rfl) (by kernel_rfl) (fun _ _ _ h => h) (Or.inl ⟨by rfl, ?hyg83_26⟩) (by assumption) ?_
        case hyg83_26 => (intro w hSw; (try dsimp only at hSw); go_simp; (try with_reducible rfl))
        try simp only [Act.put, List.setIfInBounds_toArray, List.set_cons_zero, List.set_cons_succ]
        refine regTake (i := 27) (v := ?vg83_27) rfl (by kernel_rfl) (by kernel_rfl) (by kernel_rfl) (fun _ _ _ h => h) (Or.inl ⟨by rfl, ?hyg83_27⟩) (by assumption) ?_
        case hyg83_27 => (intro w hSw; (try dsimp only at hSw); go_simp; (try with_reducible rfl))
        try simp only [Act.put, List.setIfInBounds_toArray, List.set_cons_zero, List.set_cons_succ]
        refine regTake (i := 28) (v := ?vg83_28) rfl (by kernel_rfl) (by kernel_rfl) (by kernel_rfl) (fun _ _ _ h => h) (Or.inl ⟨by rfl, ?hyg83_28⟩) (by assumption) ?_
        case hyg83_28 => (intro w hSw; (try dsimp only at hSw); go_simp; (try with_reducible rfl))
        try simp only [Act.put, List.setIfInBounds_toArray, List.set_cons_zero, List.set_cons_succ]
        refine regTake (i := 29) (v := ?vg83_29) rfl (by kernel_rfl) (by kernel_rfl) (by kernel_rfl) (fun _ _ _ h => h) (Or.inl ⟨by rfl, ?hyg83_29⟩) (by assumption) ?_
        case hyg83_29 => (intro w hSw; (try dsimp only at hSw); go_simp; (try with_reducible rfl))
        try simp only [Act.put, List.setIfInBounds_toArray, List.set_cons_zero, List.set_cons_succ]
        refine regTake (i := 31) (v := ?vg83_31) rfl (by kernel_rfl) (by kernel_rfl) (by kernel_rfl) (fun _ _ _ h => h) (Or.inl ⟨by rfl, ?hyg83_31⟩) (by assumption) ?_
        case hyg83_31 => (intro w hSw; (try dsimp only at hSw); go_simp; (try with_reducible rfl))
        try simp only [Act.put, List.setIfInBounds_toArray, List.set_cons_zero, List.set_cons_succ]
        refine wpAnyH_ready (rs := [30]) (by kernel_rfl) (by simp) ?_
        refine regCons rfl (fun K hK => ?_)
        go_simp
        have hc90 := implSubtype t4a t4a _ _ _ _ _ (HA4a.out.below (below_trans hq62 (hkg83_2))) (HA4a.out.below (below_trans hq62 (hkg83_2)))
        rw [EQ70.out] at hc90
        refine hc90.mono ?_
        rintro e yg83_3 ⟨rfl, hyg83_3⟩
        have hkg83_3 := below_trans (hkg83_2) hyg83_3
        clear hc90
        refine hK.out _ _ ?_ (fun hS4 => ?_)
        · (refine (fun hB => ⟨hB, cell_keep xa4a hB, cell_keep xb4a hB, cell_keep xa4b hB, cell_keep xb4b hB⟩ : Below (z62).heap.size (z62) _ → _) ?_; exact hkg83_3)
        clear hK K hS3
        try simp only [Act.put, List.setIfInBounds_toArray, List.set_cons_zero, List.set_cons_succ]
        refine wpAnyH_ready (rs := [32]) (by kernel_rfl) (by simp) ?_
        refine regCons rfl (fun K hK => ?_)
        go_simp
        have hc93 := implTypeValid_any t4a _ _ _ (HA4a.out.below (below_trans hq62 (hkg83_3)))
        rw [EQ92.out] at hc93
        refine hc93.mono ?_
        rintro e yg83_4 ⟨rfl, hyg83_4⟩
        have hkg83_4 := below_trans (hkg83_3) hyg83_4
        clear hc93
        refine hK.out _ _ ?_ (fun hS5 => ?_)
        · (refine (fun hB => ⟨hB, cell_keep xa4a hB, cell_keep xb4a hB, cell_keep xa4b hB, cell_keep xb4b hB⟩ : Below (z62).heap.size (z62) _ → _) ?_; exact hkg83_4)
        clear hK K hS4
        try simp only [Act.put, List.setIfInBounds_toArray, List.set_cons_zero, List.set_cons_succ]
        refine regTake (i := 33) (v := ?vg83_33) rfl (by kernel_rfl) (by kernel_rfl) (by kernel_rfl) (fun _ _ _ h => h) (Or.inl ⟨by rfl, ?hyg83_33⟩) (by assumption) ?_
        case hyg83_33 => (intro w hSw; (try dsimp only at hSw); go_simp; (try with_reducible rfl))
        try simp only [Act.put, List.setIfInBounds_toArray, List.set_cons_zero, List.set_cons_succ]
        refine regTake (i := 34) (v := .bool true) rfl (by kernel_rfl) (by kernel_rfl) (by kernel_rfl) (fun _ _ _ h => h) (Or.inl ⟨by rfl, ?hyg83_34⟩) (by assumption) ?_
        case hyg83_34 => (intro w hSw; (try dsimp only at hSw); go_simp; (try with_reducible rfl))
        try simp only [Act.put, List.setIfInBounds_toArray, List.set_cons_zero, List.set_cons_succ]
        refine regTake (i := 35) (v := ?vg83_35) rfl (by kernel_rfl) (by kernel_rfl) (by kernel_rfl) (fun _ _ _ h => h) (Or.inl ⟨by rfl, ?hyg83_35⟩) (by assumption) ?_
        case hyg83_35 => (intro w hSw; (try dsimp only at hSw); go_simp; (try with_reducible rfl))
        try simp only [Act.put, List.setIfInBounds_toArray, List.set_cons_zero, List.set_cons_succ]
        refine wpAnyH_done (by kernel_rfl) ?_ _
        have hlg83_ := below_trans hq62 hkg83_4
        replace xa4a := cell_keep xa4a hkg83_4
        replace xb4a := cell_keep xb4a hkg83_4
        replace xa4b := cell_keep xa4b hkg83_4
        replace xb4b := cell_keep xb4b hkg83_4
        go_wp2_with fail
        go_ret
        exact ⟨rfl, below_trans HBL.out hlg83_⟩
    · have EQ55 := hid hq55
      clear hq55
      go_wp2_with fail
      have hc96 := implSubPositive t4a t4b _ _ _ _ _ (HA4a.out.below hq53) (HA4b.out.below hq53)
      rw [EQ55.out] at hc96
      refine hc96.mono ?_
      rintro e z97 ⟨rfl, hz97⟩
      have hq97 := below_trans hq53 hz97
      replace xa4a := cell_keep xa4a hz97
      replace xb4a := cell_keep xb4a hz97
      replace xa4b := cell_keep xa4b hz97
      replace xb4b := cell_keep xb4b hz97
      clear hc96 hz97
      rcases Bool.eq_false_or_eq_true (subOf (-1) t4a t4b) with hq99 | hq99
      · have EQ99 := hid hq99
        clear hq99
        go_wp2_with fail
        have hc101 := implSubNegative t4a t4b _ _ _ _ _ (HA4a.out.below hq97) (HA4b.out.below hq97)
        rw [EQ99.out] at hc101
        refine hc101.mono ?_
        rintro e z102 ⟨rfl, hz102⟩
        have hq102 := below_trans hq97 hz102
        replace xa4a := cell_keep xa4a hz102
        replace xb4a := cell_keep xb4a hz102
        replace xa4b := cell_keep xa4b hz102
        replace xb4b := cell_keep xb4b hz102
        clear hc101 hz102
        rcases Bool.eq_false_or_eq_true (subOf 0 t4a t4a) with hq110 | hq110
        · have EQ110 := hid hq110
          clear hq110
          have EQ120 := hid (show vld t4a = true from (by have h := EQ110.out; rw [subOf_self] at h; exact h))
          go_wp2_with fail
          refine wp_region_held_drew (S := (fun w' => Below (z102).heap.size (z102) w' ∧ w'.cell? ⟨z4.heap.size, 0, none⟩ = some (.int .i64 k4a) ∧ w'.cell? ⟨z4.heap.size, 1, none⟩ = some (.slice a4a n4a c4a) ∧ w'.cell? ⟨z4.heap.size + 1, 0, none⟩ = some (.int .i64 k4b) ∧ w'.cell? ⟨z4.heap.size + 1, 1, none⟩ = some (.slice a4b n4b c4b))) (by kernel_rfl) ?_ (fun hS0 => ?_)
          · (refine (fun hB => ⟨hB, cell_keep xa4a hB, cell_keep xb4a hB, cell_keep xa4b hB, cell_keep xb4b hB⟩ : Below (z102).heap.size (z102) _ → _) ?_; exact below_drew _)
          refine regTake (i := 0) (v := ?vg111_0) rfl (by kernel_rfl) (by kernel_rfl) (by kernel_rfl) (fun _ _ _ h => h) (Or.inl ⟨by rfl, ?hyg111_0⟩) (by assumption) ?_
          case hyg111_0 => (intro w hSw; (try dsimp only at hSw); go_simp; (try with_reducible rfl))
          try simp only [Act.put, List.setIfInBounds_toArray, List.set_cons_zero, List.set_cons_succ]
          refine regTake (i := 1) (v := ?vg111_1) rfl (by kernel_rfl) (by kernel_rfl) (by kernel_rfl) (fun _ _ _ h => h) (Or.inl ⟨by rfl, ?hyg111_1⟩) (by assumption) ?_
          case hyg111_1 => (intro w hSw; (try dsimp only at hSw); go_simp; (try with_reducible rfl))
          try simp only [Act.put, List.setIfInBounds_toArray, List.set_cons_zero, List.set_cons_succ]
          refine regTake (i := 2) (v := ?vg111_2) rfl (by kernel_rfl) (by kernel_rfl) (by kernel_rfl) (fun _ _ _ h => h) (Or.inl ⟨by rfl, ?hyg111_2⟩) (by assumption) ?_
          case hyg111_2 => (intro w hSw; (try dsimp only at hSw); go_simp; (try with_reducible rfl))
          try simp only [Act.put, List.setIfInBounds_toArray, List.set_cons_zero, List.set_cons_succ]
          refine wpAnyH_ready (rs := [3]) (by kernel_rfl) (by simp) ?_
          refine regCons rfl (fun K hK => ?_)
          go_simp
          have hc112 := specSubtype t4a t4b _ _ _ _ _ (HA4a.out.below (below_trans hq102 (below_drew (z102)))) (HA4b.out.below (below_trans hq102 (below_drew (z102))))
          rw [EQ7.out] at hc112
          refine hc112.mono ?_
          rintro e yg111_0 ⟨rfl, hyg111_0⟩
          have hkg111_0 := below_trans (below_drew (z102)) hyg111_0
          clear hc112
          refine hK.out _ _ ?_ (fun hS1 => ?_)
          · (refine (fun hB => ⟨hB, cell_keep xa4a hB, cell_keep xb4a hB, cell_keep xa4b hB, cell_keep xb4b hB⟩ : Below (z102).heap.size (z102) _ → _) ?_; exact hkg111_0)
          clear hK K hS0
          try simp only [Act.put, List.setIfInBounds_toArray, List.set_cons_zero, List.set_cons_succ]
          refine regTake (i := 4) (v := ?vg111_4) rfl (by kernel_rfl) (by kernel_rfl) (by kernel_rfl) (fun _ _ _ h => h) (Or.inl ⟨by rfl, ?hyg111_4⟩) (by assumption) ?_
          case hyg111_4 => (intro w hSw; (try dsimp only at hSw); go_simp; (try with_reducible rfl))
          try simp only [Act.put, List.setIfInBounds_toArray, List.set_cons_zero, List.set_cons_succ]
          refine regTake (i := 5) (v := ?vg111_5) rfl (by kernel_rfl) (by kernel_rfl) (by kernel_rfl) (fun _ _ _ h => h) (Or.inl ⟨by rfl, ?hyg111_5⟩) (by assumption) ?_
          case hyg111_5 => (intro w hSw; (try dsimp only at hSw); go_simp; (try with_reducible rfl))
          try simp only [Act.put, List.setIfInBounds_toArray, List.set_cons_zero, List.set_cons_succ]
          refine regTake (i := 6) (v := ?vg111_6) rfl (by kernel_rfl) (by kernel_rfl) (by kernel_rfl) (fun _ _ _ h => h) (Or.inl ⟨by rfl, ?hyg111_6⟩) (by assumption) ?_
          case hyg111_6 => (intro w hSw; (try dsimp only at hSw); go_simp; (try with_reducible rfl))
          try simp only [Act.put, List.setIfInBounds_toArray, List.set_cons_zero, List.set_cons_succ]
          refine regTake (i := 7) (v := ?vg111_7) rfl (by kernel_rfl) (by kernel_rfl) (by kernel_rfl) (fun _ _ _ h => h) (Or.inl ⟨by rfl, ?hyg111_7⟩) (by assumption) ?_
          case hyg111_7 => (intro w hSw; (try dsimp only at hSw); go_simp; (try with_reducible rfl))
          try simp only [Act.put, List.setIfInBounds_toArray, List.set_cons_zero, List.set_cons_succ]
          refine regTake (i := 8) (v := ?vg111_8) rfl (by kernel_rfl) (by kernel_rfl) (by kernel_rfl) (fun _ _ _ h => h) (Or.inl ⟨by rfl, ?hyg111_8⟩) (by assumption) ?_
          case hyg111_8 => (intro w hSw; (try dsimp only at hSw); go_simp; (try with_reducible rfl))
          try simp only [Act.put, List.setIfInBounds_toArray, List.set_cons_zero, List.set_cons_succ]
          refine wpAnyH_ready (rs := [9]) (by kernel_rfl) (by simp) ?_
          refine regCons rfl (fun K hK => ?_)
          go_simp
          have hc114 := specSubPositive t4a t4b _ _ _ _ _ (HA4a.out.below (below_trans hq102 (hkg111_0))) (HA4b.out.below (below_trans hq102 (hkg111_0)))
          rw [EQ55.out] at hc114
          refine hc114.mono ?_
          rintro e yg111_1 ⟨rfl, hyg111_1⟩
          have hkg111_1 := below_trans (hkg111_0) hyg111_1
          clear hc114
          refine hK.out _ _ ?_ (fun hS2 => ?_)
          · (refine (fun hB => ⟨hB, cell_keep xa4a hB, cell_keep xb4a hB, cell_keep xa4b hB, cell_keep xb4b hB⟩ : Below (z102).heap.size (z102) _ → _) ?_; exact hkg111_1)
          clear hK K hS1
          try simp only [Act.put, List.setIfInBounds_toArray, List.set_cons_zero, List.set_cons_succ]
          refine regTake (i := 10) (v := ?vg111_10) rfl (by kernel_rfl) (by kernel_rfl) (by kernel_rfl) (fun _ _ _ h => h) (Or.inl ⟨by rfl, ?hyg111_10⟩) (by assumption) ?_
          case hyg111_10 => (intro w hSw; (try dsimp only at hSw); go_simp; (try with_reducible rfl))
          try simp only [Act.put, List.setIfInBounds_toArray, List.set_cons_zero, List.set_cons_succ]
          refine regTake (i := 11) (v := .bool true) rfl (by kernel_rfl) (by kernel_rfl) (by kernel_rfl) (fun _ _ _ h => h) (Or.inl ⟨by rfl, ?hyg111_11⟩) (by assumption) ?_
          case hyg111_11 => (intro w hSw; (try dsimp only at hSw); go_simp; (try with_reducible rfl))
          try simp only [Act.put, List.setIfInBounds_toArray, List.set_cons_zero, List.set_cons_succ]
          refine regTake (i := 12) (v := ?vg111_12) rfl (by kernel_rfl) (by kernel_rfl) (by kernel_rfl) (fun _ _ _ h => h) (Or.inl ⟨by rfl, ?hyg111_12⟩) (by assumption) ?_
          case hyg111_12 => (intro w hSw; (try dsimp only at hSw); go_simp; (try with_reducible rfl))
          try simp only [Act.put, List.setIfInBounds_toArray, List.set_cons_zero, List.set_cons_succ]
          refine regTake (i := 13) (v := ?vg111_13) rfl (by kernel_rfl) (by kernel_rfl) (by kernel_rfl) (fun _ _ _ h => h) (Or.inl ⟨by rfl, ?hyg111_13⟩) (by assumption) ?_
          case hyg111_13 => (intro w hSw; (try dsimp only at hSw); go_simp; (try with_reducible rfl))
          try simp only [Act.put, List.setIfInBounds_toArray, List.set_cons_zero, List.set_cons_succ]
          refine regTake (i := 14) (v := ?vg111_14) rfl (by kernel_rfl) (by kernel_rfl) (by kernel_rfl) (fun _ _ _ h => h) (Or.inl ⟨by rfl, ?hyg111_14⟩) (by assumption) ?_
          case hyg111_14 => (intro w hSw; (try dsimp only at hSw); go_simp; (try with_reducible rfl))
          try simp only [Act.put, List.setIfInBounds_toArray, List.set_cons_zero, List.set_cons_succ]
          refine regTake (i := 15) (v := ?vg111_15) rfl (by kernel_rfl) (by kernel_rfl) (by kernel_rfl) (fun _ _ _ h => h) (Or.inl ⟨by rfl, ?hyg111_15⟩) (by assumption) ?_
          case hyg111_15 => (intro w hSw; (try dsimp only at hSw); go_simp; (try with_reducible rfl))
          try simp only [Act.put, List.setIfInBounds_toArray, List.set_cons_zero, List.set_cons_succ]
          refine wpAnyH_ready (rs := [16]) (by kernel_rfl) (by simp) ?_
          refine regCons rfl (fun K hK => ?_)
          go_simp
          have hc116 := specSubNegative t4a t4b _ _ _ _ _ (HA4a.out.below (below_trans hq102 (hkg111_1))) (HA4b.out.below (below_trans hq102 (hkg111_1)))
          rw [EQ99.out] at hc116
          refine hc116.mono ?_
          rintro e yg111_2 ⟨rfl, hyg111_2⟩
          have hkg111_2 := below_trans (hkg111_1) hyg111_2
          clear hc116
          refine hK.out _ _ ?_ (fun hS3 => ?_)
          · (refine (fun hB => ⟨hB, cell_keep xa4a hB, cell_keep xb4a hB, cell_keep xa4b hB, cell_keep xb4b hB⟩ : Below (z102).heap.size (z102) _ → _) ?_; exact hkg111_2)
          clear hK K hS2
          try simp only [Act.put, List.setIfInBounds_toArray, List.set_cons_zero, List.set_cons_succ]
          refine regTake (i := 17) (v := ?vg111_17) rfl (by kernel_rfl) (by kernel_rfl) (by kernel_rfl) (fun _ _ _ h => h) (Or.inl ⟨by rfl, ?hyg111_17⟩) (by assumption) ?_
          case hyg111_17 => (intro w hSw; (try dsimp only at hSw); go_simp; (try with_reducible rfl))
          try simp only [Act.put, List.setIfInBounds_toArray, List.set_cons_zero, List.set_cons_succ]
          refine regTake (i := 18) (v := .bool true) rfl (by kernel_rfl) (by kernel_rfl) (by kernel_rfl) (fun _ _ _ h => h) (Or.inl ⟨by rfl, ?hyg111_18⟩) (by assumption) ?_
          case hyg111_18 => (intro w hSw; (try dsimp only at hSw); go_simp; (try with_reducible rfl))
          try simp only [Act.put, List.setIfInBounds_toArray, List.set_cons_zero, List.set_cons_succ]
          refine regTake (i := 19) (v := ?vg111_19) rfl (by kernel_rfl) (by kernel_rfl) (by kernel_rfl) (fun _ _ _ h => h) (Or.inl ⟨by rfl, ?hyg111_19⟩) (by assumption) ?_
          case hyg111_19 => (intro w hSw; (try dsimp only at hSw); go_simp; (try with_reducible rfl))
          try simp only [Act.put, List.setIfInBounds_toArray, List.set_cons_zero, List.set_cons_succ]
          refine regTake (i := 20) (v := ?vg111_20) rfl (by kernel_rfl) (by kernel_rfl) (by kernel_rfl) (fun _ _ _ h => h) (Or.inl ⟨by rfl, ?hyg111_20⟩) (by assumption) ?_
          case hyg111_20 => (intro w hSw; (try dsimp only at hSw); go_simp; (try with_reducible rfl))
          try simp only [Act.put, List.setIfInBounds_toArray, List.set_cons_zero, List.set_cons_succ]
          refine regTake (i := 21) (v := ?vg111_21) rfl (by kernel_rfl) (by kernel_rfl) (by kernel_rfl) (fun _ _ _ h => h) (Or.inl ⟨by rfl, ?hyg111_21⟩) (by assumption) ?_
          case hyg111_21 => (intro w hSw; (try dsimp only at hSw); go_simp; (try with_reducible rfl))
          try simp only [Act.put, List.setIfInBounds_toArray, List.set_cons_zero, List.set_cons_succ]
          refine regTake (i := 22) (v := ?vg111_22) rfl (by kernel_rfl) (by kernel_rfl) (by kernel_rfl) (fun _ _ _ h => h) (Or.inl ⟨by rfl, ?hyg111_22⟩) (by assumption) ?_
          case hyg111_22 => (intro w hSw; (try dsimp only at hSw); go_simp; (try with_reducible rfl))
          try simp only [Act.put, List.setIfInBounds_toArray, List.set_cons_zero, List.set_cons_succ]
          refine regTake (i := 23) (v := undef) rfl (by kernel_rfl) (by kernel_rfl) (by kernel_rfl) (fun _ _ _ h => h) (Or.inr ⟨by rfl, rfl⟩) (by assumption) ?_
          try simp only [Act.put, List.setIfInBounds_toArray, List.set_cons_zero, List.set_cons_succ]
          refine regTake (i := 24) (v := .bool false) rfl (by kernel_rfl) (by kernel_rfl) (by kernel_rfl) (fun _ _ _ h => h) (Or.inl ⟨by rfl, ?hyg111_24⟩) (by assumption) ?_
          case hyg111_24 => (intro w hSw; (try dsimp only at hSw); go_simp; (try with_reducible rfl))
          try simp only [Act.put, List.setIfInBounds_toArray, List.set_cons_zero, List.set_cons_succ]
          refine regTake (i := 25) (v := ?vg111_25) rfl (by kernel_rfl) (by kernel_rfl) (by kernel_rfl) (fun _ _ _ h => h) (Or.inl ⟨by rfl, ?hyg111_25⟩) (by assumption) ?_
          case hyg111_25 => (intro w hSw; (try dsimp only at hSw); go_simp; (try with_reducible rfl))
          try simp only [Act.put, List.setIfInBounds_toArray, List.set_cons_zero, List.set_cons_succ]
          refine regTake (i := 26) (v := .bool true) rfl (by kernel_rfl) (by kernel_rfl) (by kernel_rfl) (fun _ _ _ h => h) (Or.inl ⟨by rfl, ?hyg111_26⟩) (by assumption) ?_
          case hyg111_26 => (intro w hSw; (try dsimp only at hSw); go_simp; (try with_reducible rfl))
          try simp only [Act.put, List.setIfInBounds_toArray, List.set_cons_zero, List.set_cons_succ]
          refine regTake (i := 27) (v := ?vg111_27) rfl (by kernel_rfl) (by kernel_rfl) (by kernel_rfl) (fun _ _ _ h => h) (Or.inl ⟨by rfl, ?hyg111_27⟩) (by assumption) ?_
          case hyg111_27 => (intro w hSw; (try dsimp only at hSw); go_simp; (try with_reducible rfl))
          try simp only [Act.put, List.setIfInBounds_toArray, List.set_cons_zero, List.set_cons_succ]
          refine regTake (i := 28) (v := ?vg111_28) rfl (by kernel_rfl) (by kernel_rfl) (by kernel_rfl) (fun _ _ _ h => h) (Or.inl ⟨by rfl, ?hyg111_28⟩) (by assumption) ?_
          case hyg111_28 => (intro w hSw; (try dsimp only at hSw); go_simp; (try with_reducible rfl))
          try simp only [Act.put, List.setIfInBounds_toArray, List.set_cons_zero, List.set_cons_succ]
          refine regTake (i := 29) (v := ?vg111_29) rfl (by kernel_rfl) (by kernel_rfl) (by kernel_rfl) (fun _ _ _ h => h) (Or.inl ⟨by rfl, ?hyg111_29⟩) (by assumption) ?_
          case hyg111_29 => (intro w hSw; (try dsimp only at hSw); go_simp; (try with_reducible rfl))
          try simp only [Act.put, List.setIfInBounds_toArray, List.set_cons_zero, List.set_cons_succ]
          refine regTake (i := 31) (v := ?vg111_31) rfl (by kernel_rfl) (by kernel_rfl) (by kernel_rfl) (fun _ _ _ h => h) (Or.inl ⟨by rfl, ?hyg111_31⟩) (by assumption) ?_
          case hyg111_31 => (intro w hSw; (try dsimp only at hSw); go_simp; (try with_reducible rfl))
          try simp only [Act.put, List.setIfInBounds_toArray, List.set_cons_zero, List.set_cons_succ]
          refine wpAnyH_ready (rs := [30]) (by kernel_rfl) (by simp) ?_
          refine regCons rfl (fun K hK => ?_)
          go_simp
          have hc118 := implSubtype t4a t4a _ _ _ _ _ (HA4a.out.below (below_trans hq102 (hkg111_2))) (HA4a.out.below (below_trans hq102 (hkg111_2)))
          rw [EQ110.out] at hc118
          refine hc118.mono ?_
          rintro e yg111_3 ⟨rfl, hyg111_3⟩
          have hkg111_3 := below_trans (hkg111_2) hyg111_3
          clear hc118
          refine hK.out _ _ ?_ (fun hS4 => ?_)
          · (refine (fun hB => ⟨hB, cell_keep xa4a hB, cell_keep xb4a hB, cell_keep xa4b hB, cell_keep xb4b hB⟩ : Below (z102).heap.size (z102) _ → _) ?_; exact hkg111_3)
          clear hK K hS3
          try simp only [Act.put, List.setIfInBounds_toArray, List.set_cons_zero, List.set_cons_succ]
          refine wpAnyH_ready (rs := [32]) (by kernel_rfl) (by simp) ?_
          refine regCons rfl (fun K hK => ?_)
          go_simp
          have hc121 := implTypeValid_any t4a _ _ _ (HA4a.out.below (below_trans hq102 (hkg111_3)))
          rw [EQ120.out] at hc121
          refine hc121.mono ?_
          rintro e yg111_4 ⟨rfl, hyg111_4⟩
          have hkg111_4 := below_trans (hkg111_3) hyg111_4
          clear hc121
          refine hK.out _ _ ?_ (fun hS5 => ?_)
          · (refine (fun hB => ⟨hB, cell_keep xa4a hB, cell_keep xb4a hB, cell_keep xa4b hB, cell_keep xb4b hB⟩ : Below (z102).heap.size (z102) _ → _) ?_; exact hkg111_4)
          clear hK K hS4
          try simp only [Act.put, List.setIfInBounds_toArray, List.set_cons_zero, List.set_cons_succ]
          refine regTake (i := 33) (v := ?vg111_33) rfl (by kernel_rfl) (by kernel_rfl) (by kernel_rfl) (fun _ _ _ h => h) (Or.inl ⟨by rfl, ?hyg111_33⟩) (by assumption) ?_
          case hyg111_33 => (intro w hSw; (try dsimp only at hSw); go_simp; (try with_reducible rfl))
          try simp only [Act.put, List.setIfInBounds_toArray, List.set_cons_zero, List.set_cons_succ]
          refine regTake (i := 34) (v := .bool true) rfl (by kernel_rfl) (by kernel_rfl) (by kernel_rfl) (fun _ _ _ h => h) (Or.inl ⟨by rfl, ?hyg111_34⟩) (by assumption) ?_
          case hyg111_34 => (intro w hSw; (try dsimp only at hSw); go_simp; (try with_reducible rfl))
          try simp only [Act.put, List.setIfInBounds_toArray, List.set_cons_zero, List.set_cons_succ]
          refine regTake (i := 35) (v := ?vg111_35) rfl (by kernel_rfl) (by kernel_rfl) (by kernel_rfl) (fun _ _ _ h => h) (Or.inl ⟨by rfl, ?hyg111_35⟩) (by assumption) ?_
          case hyg111_35 => (intro w hSw; (try dsimp only at hSw); go_simp; (try with_reducible rfl))
          try simp only [Act.put, List.setIfInBounds_toArray, List.set_cons_zero, List.set_cons_succ]
          refine wpAnyH_done (by kernel_rfl) ?_ _
          have hlg111_ := below_trans hq102 hkg111_4
          replace xa4a := cell_keep xa4a hkg111_4
          replace xb4a := cell_keep xb4a hkg111_4
          replace xa4b := cell_keep xa4b hkg111_4
          replace xb4b := cell_keep xb4b hkg111_4
          go_wp2_with fail
          go_ret
          exact ⟨rfl, below_trans HBL.out hlg111_⟩
        · have EQ110 := hid hq110
          clear hq110
          have EQ132 := hid (show vld t4a = false from (by have h := EQ110.out; rw [subOf_self] at h; exact h))
          go_wp2_with fail
          refine wp_region_held_drew (S := (fun w' => Below (z102).heap.size (z102) w' ∧ w'.cell? ⟨z4.heap.size, 0, none⟩ = some (.int .i64 k4a) ∧ w'.cell? ⟨z4.heap.size, 1, none⟩ = some (.slice a4a n4a c4a) ∧ w'.cell? ⟨z4.heap.size + 1, 0, none⟩ = some (.int .i64 k4b) ∧ w'.cell? ⟨z4.heap.size + 1, 1, none⟩ = some (.slice a4b n4b c4b))) (by kernel_rfl) ?_ (fun hS0 => ?_)
          · (refine (fun hB => ⟨hB, cell_keep xa4a hB, cell_keep xb4a hB, cell_keep xa4b hB, cell_keep xb4b hB⟩ : Below (z102).heap.size (z102) _ → _) ?_; exact below_drew _)
          refine regTake (i := 0) (v := ?vg123_0) rfl (by kernel_rfl) (by kernel_rfl) (by kernel_rfl) (fun _ _ _ h => h) (Or.inl ⟨by rfl, ?hyg123_0⟩) (by assumption) ?_
          case hyg123_0 => (intro w hSw; (try dsimp only at hSw); go_simp; (try with_reducible rfl))
          try simp only [Act.put, List.setIfInBounds_toArray, List.set_cons_zero, List.set_cons_succ]
          refine regTake (i := 1) (v := ?vg123_1) rfl (by kernel_rfl) (by kernel_rfl) (by kernel_rfl) (fun _ _ _ h => h) (Or.inl ⟨by rfl, ?hyg123_1⟩) (by assumption) ?_
          case hyg123_1 => (intro w hSw; (try dsimp only at hSw); go_simp; (try with_reducible rfl))
          try simp only [Act.put, List.setIfInBounds_toArray, List.set_cons_zero, List.set_cons_succ]
          refine regTake (i := 2) (v := ?vg123_2) rfl (by kernel_rfl) (by kernel_rfl) (by kernel_rfl) (fun _ _ _ h => h) (Or.inl ⟨by rfl, ?hyg123_2⟩) (by assumption) ?_
          case hyg123_2 => (intro w hSw; (try dsimp only at hSw); go_simp; (try with_reducible rfl))
          try simp only [Act.put, List.setIfInBounds_toArray, List.set_cons_zero, List.set_cons_succ]
          refine wpAnyH_ready (rs := [3]) (by kernel_rfl) (by simp) ?_
          refine regCons rfl (fun K hK => ?_)
          go_simp
          have hc124 := specSubtype t4a t4b _ _ _ _ _ (HA4a.out.below (below_trans hq102 (below_drew (z102)))) (HA4b.out.below (below_trans hq102 (below_drew (z102))))
          rw [EQ7.out] at hc124
          refine hc124.mono ?_
          rintro e yg123_0 ⟨rfl, hyg123_0⟩
          have hkg123_0 := below_trans (below_drew (z102)) hyg123_0
          clear hc124
          refine hK.out _ _ ?_ (fun hS1 => ?_)
          · (refine (fun hB => ⟨hB, cell_keep xa4a hB, cell_keep xb4a hB, cell_keep xa4b hB, cell_keep xb4b hB⟩ : Below (z102).heap.size (z102) _ → _) ?_; exact hkg123_0)
          clear hK K hS0
          try simp only [Act.put, List.setIfInBounds_toArray, List.set_cons_zero, List.set_cons_succ]
          refine regTake (i := 4) (v := ?vg123_4) rfl (by kernel_rfl) (by kernel_rfl) (by kernel_rfl) (fun _ _ _ h => h) (Or.inl ⟨by rfl, ?hyg123_4⟩) (by assumption) ?_
          case hyg123_4 => (intro w hSw; (try dsimp only at hSw); go_simp; (try with_reducible rfl))
          try simp only [Act.put, List.setIfInBounds_toArray, List.set_cons_zero, List.set_cons_succ]
          refine regTake (i := 5) (v := ?vg123_5) rfl (by kernel_rfl) (by kernel_rfl) (by kernel_rfl) (fun _ _ _ h => h) (Or.inl ⟨by rfl, ?hyg123_5⟩) (by assumption) ?_
          case hyg123_5 => (intro w hSw; (try dsimp only at hSw); go_simp; (try with_reducible rfl))
          try simp only [Act.put, List.setIfInBounds_toArray, List.set_cons_zero, List.set_cons_succ]
          refine regTake (i := 6) (v := ?vg123_6) rfl (by kernel_rfl) (by kernel_rfl) (by kernel_rfl) (fun _ _ _ h => h) (Or.inl ⟨by rfl, ?hyg123_6⟩) (by assumption) ?_
          case hyg123_6 => (intro w hSw; (try dsimp only at hSw); go_simp; (try with_reducible rfl))
          try simp only [Act.put, List.setIfInBounds_toArray, List.set_cons_zero, List.set_cons_succ]
          refine regTake (i := 7) (v := ?vg123_7) rfl (by kernel_rfl) (by kernel_rfl) (by kernel_rfl) (fun _ _ _ h => h) (Or.inl ⟨by rfl, ?hyg123_7⟩) (by assumption) ?_
          case hyg123_7 => (intro w hSw; (try dsimp only at hSw); go_simp; (try with_reducible rfl))
          try simp only [Act.put, List.setIfInBounds_toArray, List.set_cons_zero, List.set_cons_succ]
          refine regTake (i := 8) (v := ?vg123_8) rfl (by kernel_rfl) (by kernel_rfl) (by kernel_rfl) (fun _ _ _ h => h) (Or.inl ⟨by rfl, ?hyg123_8⟩) (by assumption) ?_
          case hyg123_8 => (intro w hSw; (try dsimp only at hSw); go_simp; (try with_reducible rfl))
          try simp only [Act.put, List.setIfInBounds_toArray, List.set_cons_zero, List.set_cons_succ]
          refine wpAnyH_ready (rs := [9]) (by kernel_rfl) (by simp) ?_
          refine regCons rfl (fun K hK => ?_)
          go_simp
          have hc126 := specSubPositive t4a t4b _ _ _ _ _ (HA4a.out.below (below_trans hq102 (hkg123_0))) (HA4b.out.below (below_trans hq102 (hkg123_0)))
          rw [EQ55.out] at hc126
          refine hc126.mono ?_
          rintro e yg123_1 ⟨rfl, hyg123_1⟩
          have hkg123_1 := below_trans (hkg123_0) hyg123_1
          clear hc126
          refine hK.out _ _ ?_ (fun hS2 => ?_)
          · (refine (fun hB => ⟨hB, cell_keep xa4a hB, cell_keep xb4a hB, cell_keep xa4b hB, cell_keep xb4b hB⟩ : Below (z102).heap.size (z102) _ → _) ?_; exact hkg123_1)
          clear hK K hS1
          try simp only [Act.put, List.setIfInBounds_toArray, List.set_cons_zero, List.set_cons_succ]
          refine regTake (i := 10) (v := ?vg123_10) rfl (by kernel_rfl) (by kernel_rfl) (by kernel_rfl) (fun _ _ _ h => h) (Or.inl ⟨by rfl, ?hyg123_10⟩) (by assumption) ?_
          case hyg123_10 => (intro w hSw; (try dsimp only at hSw); go_simp; (try with_reducible rfl))
          try simp only [Act.put, List.setIfInBounds_toArray, List.set_cons_zero, List.set_cons_succ]
          refine regTake (i := 11) (v := .bool true) rfl (by kernel_rfl) (by kernel_rfl) (by kernel_rfl) (fun _ _ _ h => h) (Or.inl ⟨by rfl, ?hyg123_11⟩) (by assumption) ?_
          case hyg123_11 => (intro w hSw; (try dsimp only at hSw); go_simp; (try with_reducible rfl))
          try simp only [Act.put, List.setIfInBounds_toArray, List.set_cons_zero, List.set_cons_succ]
          refine regTake (i := 12) (v := ?vg123_12) rfl (by kernel_rfl) (by kernel_rfl) (by kernel_rfl) (fun _ _ _ h => h) (Or.inl ⟨by rfl, ?hyg123_12⟩) (by assumption) ?_
          case hyg123_12 => (intro w hSw; (try dsimp only at hSw); go_simp; (try with_reducible rfl))
          try simp only [Act.put, List.setIfInBounds_toArray, List.set_cons_zero, List.set_cons_succ]
          refine regTake (i := 13) (v := ?vg123_13) rfl (by kernel_rfl) (by kernel_rfl) (by kernel_rfl) (fun _ _ _ h => h) (Or.inl ⟨by rfl, ?hyg123_13⟩) (by assumption) ?_
          case hyg123_13 => (intro w hSw; (try dsimp only at hSw); go_simp; (try with_reducible rfl))
          try simp only [Act.put, List.setIfInBounds_toArray, List.set_cons_zero, List.set_cons_succ]
          refine regTake (i := 14) (v := ?vg123_14) rfl (by kernel_rfl) (by kernel_rfl) (by kernel_rfl) (fun _ _ _ h => h) (Or.inl ⟨by rfl, ?hyg123_14⟩) (by assumption) ?_
          case hyg123_14 => (intro w hSw; (try dsimp only at hSw); go_simp; (try with_reducible rfl))
          try simp only [Act.put, List.setIfInBounds_toArray, List.set_cons_zero, List.set_cons_succ]
          refine regTake (i := 15) (v := ?vg123_15) rfl (by kernel_rfl) (by kernel_rfl) (by kernel_rfl) (fun _ _ _ h => h) (Or.inl ⟨by rfl, ?hyg123_15⟩) (by assumption) ?_
          case hyg123_15 => (intro w hSw; (try dsimp only at hSw); go_simp; (try with_reducible rfl))
          try simp only [Act.put, List.setIfInBounds_toArray, List.set_cons_zero, List.set_cons_succ]
          refine wpAnyH_ready (rs := [16]) (by kernel_rfl) (by simp) ?_
          refine regCons rfl (fun K hK => ?_)
          go_simp
          have hc128 := specSubNegative t4a t4b _ _ _ _ _ (HA4a.out.below (below_trans hq102 (hkg123_1))) (HA4b.out.below (below_trans hq102 (hkg123_1)))
          rw [EQ99.out] at hc128
          refine hc128.mono ?_
          rintro e yg123_2 ⟨rfl, hyg123_2⟩
          have hkg123_2 := below_trans (hkg123_1) hyg123_2
          clear hc128
          refine hK.out _ _ ?_ (fun hS3 => ?_)
          · (refine (fun hB => ⟨hB, cell_keep xa4a hB, cell_keep xb4a hB, cell_keep xa4b hB, cell_keep xb4b hB⟩ : Below (z102).heap.size (z102) _ → _) ?_; exact hkg123_2)
          clear hK K hS2
          try simp only [Act.put, List.setIfInBounds_toArray, List.set_cons_zero, List.set_cons_succ]
          refine regTake (i := 17) (v := ?vg123_17) rfl (by kernel_rfl) (by kernel_rfl) (by kernel_rfl) (fun _ _ _ h => h) (Or.inl ⟨by rfl, ?hyg123_17⟩) (by assumption) ?_
          case hyg123_17 => (intro w hSw; (try dsimp only at hSw); go_simp; (try with_reducible rfl))
          try simp only [Act.put, List.setIfInBounds_toArray, List.set_cons_zero, List.set_cons_succ]
          refine regTake (i := 18) (v := .bool true) rfl (by kernel_rfl) (by kernel_rfl) (by kernel_rfl) (fun _ _ _ h => h) (Or.inl ⟨by rfl, ?hyg123_18⟩) (by assumption) ?_
          case hyg123_18 => (intro w hSw; (try dsimp only at hSw); go_simp; (try with_reducible rfl))
          try simp only [Act.put, List.setIfInBounds_toArray, List.set_cons_zero, List.set_cons_succ]
          refine regTake (i := 19) (v := ?vg123_19) rfl (by kernel_rfl) (by kernel_rfl) (by kernel_rfl) (fun _ _ _ h => h) (Or.inl ⟨by rfl, ?hyg123_19⟩) (by assumption) ?_
          case hyg123_19 => (intro w hSw; (try dsimp only at hSw); go_simp; (try with_reducible rfl))
          try simp only [Act.put, List.setIfInBounds_toArray, List.set_cons_zero, List.set_cons_succ]
          refine regTake (i := 20) (v := ?vg123_20) rfl (by kernel_rfl) (by kernel_rfl) (by kernel_rfl) (fun _ _ _ h => h) (Or.inl ⟨by rfl, ?hyg123_20⟩) (by assumption) ?_
          case hyg123_20 => (intro w hSw; (try dsimp only at hSw); go_simp; (try with_reducible rfl))
          try simp only [Act.put, List.setIfInBounds_toArray, List.set_cons_zero, List.set_cons_succ]
          refine regTake (i := 21) (v := ?vg123_21) rfl (by kernel_rfl) (by kernel_rfl) (by kernel_rfl) (fun _ _ _ h => h) (Or.inl ⟨by rfl, ?hyg123_21⟩) (by assumption) ?_
          case hyg123_21 => (intro w hSw; (try dsimp only at hSw); go_simp; (try with_reducible rfl))
          try simp only [Act.put, List.setIfInBounds_toArray, List.set_cons_zero, List.set_cons_succ]
          refine regTake (i := 22) (v := ?vg123_22) rfl (by kernel_rfl) (by kernel_rfl) (by kernel_rfl) (fun _ _ _ h => h) (Or.inl ⟨by rfl, ?hyg123_22⟩) (by assumption) ?_
          case hyg123_22 => (intro w hSw; (try dsimp only at hSw); go_simp; (try with_reducible rfl))
          try simp only [Act.put, List.setIfInBounds_toArray, List.set_cons_zero, List.set_cons_succ]
          refine regTake (i := 23) (v := undef) rfl (by kernel_rfl) (by kernel_rfl) (by kernel_rfl) (fun _ _ _ h => h) (Or.inr ⟨by rfl, rfl⟩) (by assumption) ?_
          try simp only [Act.put, List.setIfInBounds_toArray, List.set_cons_zero, List.set_cons_succ]
          refine regTake (i := 24) (v := .bool false) rfl (by kernel_rfl) (by kernel_rfl) (by kernel_rfl) (fun _ _ _ h => h) (Or.inl ⟨by rfl, ?hyg123_24⟩) (by assumption) ?_
          case hyg123_24 => (intro w hSw; (try dsimp only at hSw); go_simp; (try with_reducible rfl))
          try simp only [Act.put, List.setIfInBounds_toArray, List.set_cons_zero, List.set_cons_succ]
          refine regTake (i := 25) (v := ?vg123_25) rfl (by kernel_rfl) (by kernel_rfl) (by kernel_rfl) (fun _ _ _ h => h) (Or.inl ⟨by rfl, ?hyg123_25⟩) (by assumption) ?_
          case hyg123_25 => (intro w hSw; (try dsimp only at hSw); go_simp; (try with_reducible rfl))
          try simp only [Act.put, List.setIfInBounds_toArray, List.set_cons_zero, List.set_cons_succ]
          refine regTake (i := 26) (v := .bool true) rfl (by kernel_rfl) (by kernel_rfl) (by kernel_rfl) (fun _ _ _ h => h) (Or.inl ⟨by rfl, ?hyg123_26⟩) (by assumption) ?_
          case hyg123_26 => (intro w hSw; (try dsimp only at hSw); go_simp; (try with_reducible rfl))
          try simp only [Act.put, List.setIfInBounds_toArray, List.set_cons_zero, List.set_cons_succ]
          refine regTake (i := 27) (v := ?vg123_27) rfl (by kernel_rfl) (by kernel_rfl) (by kernel_rfl) (fun _ _ _ h => h) (Or.inl ⟨by rfl, ?hyg123_27⟩) (by assumption) ?_
          case hyg123_27 => (intro w hSw; (try dsimp only at hSw); go_simp; (try with_reducible rfl))
          try simp only [Act.put, List.setIfInBounds_toArray, List.set_cons_zero, List.set_cons_succ]
          refine regTake (i := 28) (v := ?vg123_28) rfl (by kernel_rfl) (by kernel_rfl) (by kernel_rfl) (fun _ _ _ h => h) (Or.inl ⟨by rfl, ?hyg123_28⟩) (by assumption) ?_
          case hyg123_28 => (intro w hSw; (try dsimp only at hSw); go_simp; (try with_reducible rfl))
          try simp only [Act.put, List.setIfInBounds_toArray, List.set_cons_zero, List.set_cons_succ]
          refine regTake (i := 29) (v := ?vg123_29) rfl (by kernel_rfl) (by kernel_rfl) (by kernel_rfl) (fun _ _ _ h => h) (Or.inl ⟨by rfl, ?hyg123_29⟩) (by assumption) ?_
          case hyg123_29 => (intro w hSw; (try dsimp only at hSw); go_simp; (try with_reducible rfl))
          try simp only [Act.put, List.setIfInBounds_toArray, List.set_cons_zero, List.set_cons_succ]
          refine regTake (i := 31) (v := ?vg123_31) rfl (by kernel_rfl) (by kernel_rfl) (by kernel_rfl) (fun _ _ _ h => h) (Or.inl ⟨by rfl, ?hyg123_31⟩) (by assumption) ?_
          case hyg123_31 => (intro w hSw; (try dsimp only at hSw); go_simp; (try with_reducible rfl))
          try simp only [Act.put, List.setIfInBounds_toArray, List.set_cons_zero, List.set_cons_succ]
          refine wpAnyH_ready (rs := [30]) (by kernel_rfl) (by simp) ?_
          refine regCons rfl (fun K hK => ?_)
          go_simp
          have hc130 := implSubtype t4a t4a _ _ _ _ _ (HA4a.out.below (below_trans hq102 (hkg123_2))) (HA4a.out.below (below_trans hq102 (hkg123_2)))
          rw [EQ110.out] at hc130
          refine hc130.mono ?_
          rintro e yg123_3 ⟨rfl, hyg123_3⟩
          have hkg123_3 := below_trans (hkg123_2) hyg123_3
          clear hc130
          refine hK.out _ _ ?_ (fun hS4 => ?_)
          · (refine (fun hB => ⟨hB, cell_keep xa4a hB, cell_keep xb4a hB, cell_keep xa4b hB, cell_keep xb4b hB⟩ : Below (z102).heap.size (z102) _ → _) ?_; exact hkg123_3)
          clear hK K hS3
          try simp only [Act.put, List.setIfInBounds_toArray, List.set_cons_zero, List.set_cons_succ]
          refine wpAnyH_ready (rs := [32]) (by kernel_rfl) (by simp) ?_
          refine regCons rfl (fun K hK => ?_)
          go_simp
          have hc133 := implTypeValid_any t4a _ _ _ (HA4a.out.below (below_trans hq102 (hkg123_3)))
          rw [EQ132.out] at hc133
          refine hc133.mono ?_
          rintro e yg123_4 ⟨rfl, hyg123_4⟩
          have hkg123_4 := below_trans (hkg123_3) hyg123_4
          clear hc133
          refine hK.out _ _ ?_ (fun hS5 => ?_)
          · (refine (fun hB => ⟨hB, cell_keep xa4a hB, cell_keep xb4a hB, cell_keep xa4b hB, cell_keep xb4b hB⟩ : Below (z102).heap.size (z102) _ → _) ?_; exact hkg123_4)
          clear hK K hS4
          try simp only [Act.put, List.setIfInBounds_toArray, List.set_cons_zero, List.set_cons_succ]
          refine regTake (i := 33) (v := ?vg123_33) rfl (by kernel_rfl) (by kernel_rfl) (by kernel_rfl) (fun _ _ _ h => h) (Or.inl ⟨by rfl, ?hyg123_33⟩) (by assumption) ?_
          case hyg123_33 => (intro w hSw; (try dsimp only at hSw); go_simp; (try with_reducible rfl))
          try simp only [Act.put, List.setIfInBounds_toArray, List.set_cons_zero, List.set_cons_succ]
          refine regTake (i := 34) (v := .bool true) rfl (by kernel_rfl) (by kernel_rfl) (by kernel_rfl) (fun _ _ _ h => h) (Or.inl ⟨by rfl, ?hyg123_34⟩) (by assumption) ?_
          case hyg123_34 => (intro w hSw; (try dsimp only at hSw); go_simp; (try with_reducible rfl))
          try simp only [Act.put, List.setIfInBounds_toArray, List.set_cons_zero, List.set_cons_succ]
          refine regTake (i := 35) (v := ?vg123_35) rfl (by kernel_rfl) (by kernel_rfl) (by kernel_rfl) (fun _ _ _ h => h) (Or.inl ⟨by rfl, ?hyg123_35⟩) (by assumption) ?_
          case hyg123_35 => (intro w hSw; (try dsimp only at hSw); go_simp; (try with_reducible rfl))
          try simp only [Act.put, List.setIfInBounds_toArray, List.set_cons_zero, List.set_cons_succ]
          refine wpAnyH_done (by kernel_rfl) ?_ _
          have hlg123_ := below_trans hq102 hkg123_4
          replace xa4a := cell_keep xa4a hkg123_4
          replace xb4a := cell_keep xb4a hkg123_4
          replace xa4b := cell_keep xa4b hkg123_4
          replace xb4b := cell_keep xb4b hkg123_4
          go_wp2_with fail
          go_ret
          exact ⟨rfl, below_trans HBL.out hlg123_⟩
      · have EQ99 := hid hq99
        clear hq99
        go_wp2_with fail
        have hc136 := implSubNegative t4a t4b _ _ _ _ _ (HA4a.out.below hq97) (HA4b.out.below hq97)
        rw [EQ99.out] at hc136
        refine hc136.mono ?_
        rintro e z137 ⟨rfl, hz137⟩
        have hq137 := below_trans hq97 hz137
        replace xa4a := cell_keep xa4a hz137
        replace xb4a := cell_keep xb4a hz137
        replace xa4b := cell_keep xa4b hz137
        replace xb4b := cell_keep xb4b hz137
        clear hc136 hz137
        rcases Bool.eq_false_or_eq_true (subOf 0 t4a t4a) with hq145 | hq145
        · have EQ145 := hid hq145
          clear hq145
          have EQ155 := hid (show vld t4a = true from (by have h := EQ145.out; rw [subOf_self] at h; exact h))
          go_wp2_with fail
          refine wp_region_held_drew (S := (fun w' => Below (z137).heap.size (z137) w' ∧ w'.cell? ⟨z4.heap.size, 0, none⟩ = some (.int .i64 k4a) ∧ w'.cell? ⟨z4.heap.size, 1, none⟩ = some (.slice a4a n4a c4a) ∧ w'.cell? ⟨z4.heap.size + 1, 0, none⟩ = some (.int .i64 k4b) ∧ w'.cell? ⟨z4.heap.size + 1, 1, none⟩ = some (.slice a4b n4b c4b))) (by kernel_rfl) ?_ (fun hS0 => ?_)
          · (refine (fun hB => ⟨hB, cell_keep xa4a hB, cell_keep xb4a hB, cell_keep xa4b hB, cell_keep xb4b hB⟩ : Below (z137).heap.size (z137) _ → _) ?_; exact below_drew _)
          refine regTake (i := 0) (v := ?vg146_0) rfl (by kernel_rfl) (by kernel_rfl) (by kernel_rfl) (fun _ _ _ h => h) (Or.inl ⟨by rfl, ?hyg146_0⟩) (by assumption) ?_
          case hyg146_0 => (intro w hSw; (try dsimp only at hSw); go_simp; (try with_reducible rfl))
          try simp only [Act.put, List.setIfInBounds_toArray, List.set_cons_zero, List.set_cons_succ]
          refine regTake (i := 1) (v := ?vg146_1) rfl (by kernel_rfl) (by kernel_rfl) (by kernel_rfl) (fun _ _ _ h => h) (Or.inl ⟨by rfl, ?hyg146_1⟩) (by assumption) ?_
          case hyg146_1 => (intro w hSw; (try dsimp only at hSw); go_simp; (try with_reducible rfl))
          try simp only [Act.put, List.setIfInBounds_toArray, List.set_cons_zero, List.set_cons_succ]
          refine regTake (i := 2) (v := ?vg146_2) rfl (by kernel_rfl) (by kernel_rfl) (by kernel_rfl) (fun _ _ _ h => h) (Or.inl ⟨by rfl, ?hyg146_2⟩) (by assumption) ?_
          case hyg146_2 => (intro w hSw; (try dsimp only at hSw); go_simp; (try with_reducible rfl))
          try simp only [Act.put, List.setIfInBounds_toArray, List.set_cons_zero, List.set_cons_succ]
          refine wpAnyH_ready (rs := [3]) (by kernel_rfl) (by simp) ?_
          refine regCons rfl (fun K hK => ?_)
          go_simp
          have hc147 := specSubtype t4a t4b _ _ _ _ _ (HA4a.out.below (below_trans hq137 (below_drew (z137)))) (HA4b.out.below (below_trans hq137 (below_drew (z137))))
          rw [EQ7.out] at hc147
          refine hc147.mono ?_
          rintro e yg146_0 ⟨rfl, hyg146_0⟩
          have hkg146_0 := below_trans (below_drew (z137)) hyg146_0
          clear hc147
          refine hK.out _ _ ?_ (fun hS1 => ?_)
          · (refine (fun hB => ⟨hB, cell_keep xa4a hB, cell_keep xb4a hB, cell_keep xa4b hB, cell_keep xb4b hB⟩ : Below (z137).heap.size (z137) _ → _) ?_; exact hkg146_0)
          clear hK K hS0
          try simp only [Act.put, List.setIfInBounds_toArray, List.set_cons_zero, List.set_cons_succ]
          refine regTake (i := 4) (v := ?vg146_4) rfl (by kernel_rfl) (by kernel_rfl) (by kernel_rfl) (fun _ _ _ h => h) (Or.inl ⟨by rfl, ?hyg146_4⟩) (by assumption) ?_
          case hyg146_4 => (intro w hSw; (try dsimp only at hSw); go_simp; (try with_reducible rfl))
          try simp only [Act.put, List.setIfInBounds_toArray, List.set_cons_zero, List.set_cons_succ]
          refine regTake (i := 5) (v := ?vg146_5) rfl (by kernel_rfl) (by kernel_rfl) (by kernel_rfl) (fun _ _ _ h => h) (Or.inl ⟨by rfl, ?hyg146_5⟩) (by assumption) ?_
          case hyg146_5 => (intro w hSw; (try dsimp only at hSw); go_simp; (try with_reducible rfl))
          try simp only [Act.put, List.setIfInBounds_toArray, List.set_cons_zero, List.set_cons_succ]
          refine regTake (i := 6) (v := ?vg146_6) rfl (by kernel_rfl) (by kernel_rfl) (by kernel_rfl) (fun _ _ _ h => h) (Or.inl ⟨by rfl, ?hyg146_6⟩) (by assumption) ?_
          case hyg146_6 => (intro w hSw; (try dsimp only at hSw); go_simp; (try with_reducible rfl))
          try simp only [Act.put, List.setIfInBounds_toArray, List.set_cons_zero, List.set_cons_succ]
          refine regTake (i := 7) (v := ?vg146_7) rfl (by kernel_rfl) (by kernel_rfl) (by kernel_rfl) (fun _ _ _ h => h) (Or.inl ⟨by rfl, ?hyg146_7⟩) (by assumption) ?_
          case hyg146_7 => (intro w hSw; (try dsimp only at hSw); go_simp; (try with_reducible rfl))
          try simp only [Act.put, List.setIfInBounds_toArray, List.set_cons_zero, List.set_cons_succ]
          refine regTake (i := 8) (v := ?vg146_8) rfl (by kernel_rfl) (by kernel_rfl) (by kernel_rfl) (fun _ _ _ h => h) (Or.inl ⟨by rfl, ?hyg146_8⟩) (by assumption) ?_
          case hyg146_8 => (intro w hSw; (try dsimp only at hSw); go_simp; (try with_reducible rfl))
          try simp only [Act.put, List.setIfInBounds_toArray, List.set_cons_zero, List.set_cons_succ]
          refine wpAnyH_ready (rs := [9]) (by kernel_rfl) (by simp) ?_
          refine regCons rfl (fun K hK => ?_)
          go_simp
          have hc149 := specSubPositive t4a t4b _ _ _ _ _ (HA4a.out.below (below_trans hq137 (hkg146_0))) (HA4b.out.below (below_trans hq137 (hkg146_0)))
          rw [EQ55.out] at hc149
          refine hc149.mono ?_
          rintro e yg146_1 ⟨rfl, hyg146_1⟩
          have hkg146_1 := below_trans (hkg146_0) hyg146_1
          clear hc149
          refine hK.out _ _ ?_ (fun hS2 => ?_)
          · (refine (fun hB => ⟨hB, cell_keep xa4a hB, cell_keep xb4a hB, cell_keep xa4b hB, cell_keep xb4b hB⟩ : Below (z137).heap.size (z137) _ → _) ?_; exact hkg146_1)
          clear hK K hS1
          try simp only [Act.put, List.setIfInBounds_toArray, List.set_cons_zero, List.set_cons_succ]
          refine regTake (i := 10) (v := ?vg146_10) rfl (by kernel_rfl) (by kernel_rfl) (by kernel_rfl) (fun _ _ _ h => h) (Or.inl ⟨by rfl, ?hyg146_10⟩) (by assumption) ?_
          case hyg146_10 => (intro w hSw; (try dsimp only at hSw); go_simp; (try with_reducible rfl))
          try simp only [Act.put, List.setIfInBounds_toArray, List.set_cons_zero, List.set_cons_succ]
          refine regTake (i := 11) (v := .bool true) rfl (by kernel_rfl) (by kernel_rfl) (by kernel_rfl) (fun _ _ _ h => h) (Or.inl ⟨by rfl, ?hyg146_11⟩) (by assumption) ?_
          case hyg146_11 => (intro w hSw; (try dsimp only at hSw); go_simp; (try with_reducible rfl))
          try simp only [Act.put, List.setIfInBounds_toArray, List.set_cons_zero, List.set_cons_succ]
          refine regTake (i := 12) (v := ?vg146_12) rfl (by kernel_rfl) (by kernel_rfl) (by kernel_rfl) (fun _ _ _ h => h) (Or.inl ⟨by rfl, ?hyg146_12⟩) (by assumption) ?_
          case hyg146_12 => (intro w hSw; (try dsimp only at hSw); go_simp; (try with_reducible rfl))
          try simp only [Act.put, List.setIfInBounds_toArray, List.set_cons_zero, List.set_cons_succ]
          refine regTake (i := 13) (v := ?vg146_13) rfl (by kernel_rfl) (by kernel_rfl) (by kernel_rfl) (fun _ _ _ h => h) (Or.inl ⟨by rfl, ?hyg146_13⟩) (by assumption) ?_
          case hyg146_13 => (intro w hSw; (try dsimp only at hSw); go_simp; (try with_reducible rfl))
          try simp only [Act.put, List.setIfInBounds_toArray, List.set_cons_zero, List.set_cons_succ]
          refine regTake (i := 14) (v := ?vg146_14) rfl (by kernel_rfl) (by kernel_rfl) (by kernel_rfl) (fun _ _ _ h => h) (Or.inl ⟨by rfl, ?hyg146_14⟩) (by assumption) ?_
          case hyg146_14 => (intro w hSw; (try dsimp only at hSw); go_simp; (try with_reducible rfl))
          try simp only [Act.put, List.setIfInBounds_toArray, List.set_cons_zero, List.set_cons_succ]
          refine regTake (i := 15) (v := ?vg146_15) rfl (by kernel_rfl) (by kernel_rfl) (by kernel_rfl) (fun _ _ _ h => h) (Or.inl ⟨by rfl, ?hyg146_15⟩) (by assumption) ?_
          case hyg146_15 => (intro w hSw; (try dsimp only at hSw); go_simp; (try with_reducible rfl))
          try simp only [Act.put, List.setIfInBounds_toArray, List.set_cons_zero, List.set_cons_succ]
          refine wpAnyH_ready (rs := [16]) (by kernel_rfl) (by simp) ?_
          refine regCons rfl (fun K hK => ?_)
          go_simp
          have hc151 := specSubNegative t4a t4b _ _ _ _ _ (HA4a.out.below (below_trans hq137 (hkg146_1))) (HA4b.out.below (below_trans hq137 (hkg146_1)))
          rw [EQ99.out] at hc151
          refine hc151.mono ?_
          rintro e yg146_2 ⟨rfl, hyg146_2⟩
          have hkg146_2 := below_trans (hkg146_1) hyg146_2
          clear hc151
          refine hK.out _ _ ?_ (fun hS3 => ?_)
          · (refine (fun hB => ⟨hB, cell_keep xa4a hB, cell_keep xb4a hB, cell_keep xa4b hB, cell_keep xb4b hB⟩ : Below (z137).heap.size (z137) _ → _) ?_; exact hkg146_2)
          clear hK K hS2
          try simp only [Act.put, List.setIfInBounds_toArray, List.set_cons_zero, List.set_cons_succ]
          refine regTake (i := 17) (v := ?vg146_17) rfl (by kernel_rfl) (by kernel_rfl) (by kernel_rfl) (fun _ _ _ h => h) (Or.inl ⟨by rfl, ?hyg146_17⟩) (by assumption) ?_
          case hyg146_17 => (intro w hSw; (try dsimp only at hSw); go_simp; (try with_reducible rfl))
          try simp only [Act.put, List.setIfInBounds_toArray, List.set_cons_zero, List.set_cons_succ]
          refine regTake (i := 18) (v := .bool true) rfl (by kernel_rfl) (by kernel_rfl) (by kernel_rfl) (fun _ _ _ h => h) (Or.inl ⟨by rfl, ?hyg146_18⟩) (by assumption) ?_
          case hyg146_18 => (intro w hSw; (try dsimp only at hSw); go_simp; (try with_reducible rfl))
          try simp only [Act.put, List.setIfInBounds_toArray, List.set_cons_zero, List.set_cons_succ]
          refine regTake (i := 19) (v := ?vg146_19) rfl (by kernel_rfl) (by kernel_rfl) (by kernel_rfl) (fun _ _ _ h => h) (Or.inl ⟨by rfl, ?hyg146_19⟩) (by assumption) ?_
          case hyg146_19 => (intro w hSw; (try dsimp only at hSw); go_simp; (try with_reducible rfl))
          try simp only [Act.put, List.setIfInBounds_toArray, List.set_cons_zero, List.set_cons_succ]
          refine regTake (i := 20) (v := ?vg146_20) rfl (by kernel_rfl) (by kernel_rfl) (by kernel_rfl) (fun _ _ _ h => h) (Or.inl ⟨by rfl, ?hyg146_20⟩) (by assumption) ?_
          case hyg146_20 => (intro w hSw; (try dsimp only at hSw); go_simp; (try with_reducible rfl))
          try simp only [Act.put, List.setIfInBounds_toArray, List.set_cons_zero, List.set_cons_succ]
          refine regTake (i := 21) (v := ?vg146_21) rfl (by kernel_rfl) (by kernel_rfl) (by kernel_rfl) (fun _ _ _ h => h) (Or.inl ⟨by rfl, ?hyg146_21⟩) (by assumption) ?_
          case hyg146_21 => (intro w hSw; (try dsimp only at hSw); go_simp; (try with_reducible rfl))
          try simp only [Act.put, List.setIfInBounds_toArray, List.set_cons_zero, List.set_cons_succ]
          refine regTake (i := 22) (v := ?vg146_22) rfl (by kernel_rfl) (by kernel_rfl) (by kernel_rfl) (fun _ _ _ h => h) (Or.inl ⟨by rfl, ?hyg146_22⟩) (by assumption) ?_
          case hyg146_22 => (intro w hSw; (try dsimp only at hSw); go_simp; (try with_reducible rfl))
          try simp only [Act.put, List.setIfInBounds_toArray, List.set_cons_zero, List.set_cons_succ]
          refine regTake (i := 23) (v := undef) rfl (by kernel_rfl) (by kernel_rfl) (by kernel_rfl) (fun _ _ _ h => h) (Or.inr ⟨by rfl, rfl⟩) (by assumption) ?_
          try simp only [Act.put, List.setIfInBounds_toArray, List.set_cons_zero, List.set_cons_succ]
          refine regTake (i := 24) (v := .bool false) rfl (by kernel_rfl) (by kernel_rfl) (by kernel_rfl) (fun _ _ _ h => h) (Or.inl ⟨by rfl, ?hyg146_24⟩) (by assumption) ?_
          case hyg146_24 => (intro w hSw; (try dsimp only at hSw); go_simp; (try with_reducible rfl))
          try simp only [Act.put, List.setIfInBounds_toArray, List.set_cons_zero, List.set_cons_succ]
          refine regTake (i := 25) (v := ?vg146_25) rfl (by kernel_rfl) (by kernel_rfl) (by kernel_rfl) (fun _ _ _ h => h) (Or.inl ⟨by rfl, ?hyg146_25⟩) (by assumption) ?_
          case hyg146_25 => (intro w hSw; (try dsimp only at hSw); go_simp; (try with_reducible rfl))
          try simp only [Act.put, List.setIfInBounds_toArray, List.set_cons_zero, List.set_cons_succ]
          refine regTake (i := 26) (v := .bool true) rfl (by kernel_rfl) (by kernel_rfl) (by kernel_rfl) (fun _ _ _ h => h) (Or.inl ⟨by rfl, ?hyg146_26⟩) (by assumption) ?_
          case hyg146_26 => (intro w hSw; (try dsimp only at hSw); go_simp; (try with_reducible rfl))
          try simp only [Act.put, List.setIfInBounds_toArray, List.set_cons_zero, List.set_cons_succ]
          refine regTake (i := 27) (v := ?vg146_27) rfl (by kernel_rfl) (by kernel_rfl) (by kernel_rfl) (fun _ _ _ h => h) (Or.inl ⟨by rfl, ?hyg146_27⟩) (by assumption) ?_
          case hyg146_27 => (intro w hSw; (try dsimp only at hSw); go_simp; (try with_reducible rfl))
          try simp only [Act.put, List.setIfInBounds_toArray, List.set_cons_zero, List.set_cons_succ]
          refine regTake (i := 28) (v := ?vg146_28) rfl (by kernel_rfl) (by kernel_rfl) (by kernel_rfl) (fun _ _ _ h => h) (Or.inl ⟨by rfl, ?hyg146_28⟩) (by assumption) ?_
          case hyg146_28 => (intro w hSw; (try dsimp only at hSw); go_simp; (try with_reducible rfl))
          try simp only [Act.put, List.setIfInBounds_toArray, List.set_cons_zero, List.set_cons_succ]
          refine regTake (i := 29) (v := ?vg146_29) rfl (by kernel_rfl) (by kernel_rfl) (by kernel_rfl) (fun _ _ _ h => h) (Or.inl ⟨by rfl, ?hyg146_29⟩) (by assumption) ?_
          case hyg146_29 => (intro w hSw; (try dsimp only at hSw); go_simp; (try with_reducible rfl))
          try simp only [Act.put, List.setIfInBounds_toArray, List.set_cons_zero, List.set_cons_succ]
          refine regTake (i := 31) (v := ?vg146_31) rfl (by kernel_rfl) (by kernel_rfl) (by kernel_rfl) (fun _ _ _ h => h) (Or.inl ⟨by rfl, ?hyg146_31⟩) (by assumption) ?_
          case hyg146_31 => (intro w hSw; (try dsimp only at hSw); go_simp; (try with_reducible rfl))
          try simp only [Act.put, List.setIfInBounds_toArray, List.set_cons_zero, List.set_cons_succ]
          refine wpAnyH_ready (rs := [30]) (by kernel_rfl) (by simp) ?_
          refine regCons rfl (fun K hK => ?_)
          go_simp
          have hc153 := implSubtype t4a t4a _ _ _ _ _ (HA4a.out.below (below_trans hq137 (hkg146_2))) (HA4a.out.below (below_trans hq137 (hkg146_2)))
          rw [EQ145.out] at hc153
          refine hc153.mono ?_
          rintro e yg146_3 ⟨rfl, hyg146_3⟩
          have hkg146_3 := below_trans (hkg146_2) hyg146_3
          clear hc153
          refine hK.out _ _ ?_ (fun hS4 => ?_)
          · (refine (fun hB => ⟨hB, cell_keep xa4a hB, cell_keep xb4a hB, cell_keep xa4b hB, cell_keep xb4b hB⟩ : Below (z137).heap.size (z137) _ → _) ?_; exact hkg146_3)
          clear hK K hS3
          try simp only [Act.put, List.setIfInBounds_toArray, List.set_cons_zero, List.set_cons_succ]
          refine wpAnyH_ready (rs := [32]) (by kernel_rfl) (by simp) ?_
          refine regCons rfl (fun K hK => ?_)
          go_simp
          have hc156 := implTypeValid_any t4a _ _ _ (HA4a.out.below (below_trans hq137 (hkg146_3)))
          rw [EQ155.out] at hc156
          refine hc156.mono ?_
          rintro e yg146_4 ⟨rfl, hyg146_4⟩
          have hkg146_4 := below_trans (hkg146_3) hyg146_4
          clear hc156
          refine hK.out _ _ ?_ (fun hS5 => ?_)
          · (refine (fun hB => ⟨hB, cell_keep xa4a hB, cell_keep xb4a hB, cell_keep xa4b hB, cell_keep xb4b hB⟩ : Below (z137).heap.size (z137) _ → _) ?_; exact hkg146_4)
          clear hK K hS4
          try simp only [Act.put, List.setIfInBounds_toArray, List.set_cons_zero, List.set_cons_succ]
          refine regTake (i := 33) (v := ?vg146_33) rfl (by kernel_rfl) (by kernel_rfl) (by kernel_rfl) (fun _ _ _ h => h) (Or.inl ⟨by rfl, ?hyg146_33⟩) (by assumption) ?_
          case hyg146_33 => (intro w hSw; (try dsimp only at hSw); go_simp; (try with_reducible rfl))
          try simp only [Act.put, List.setIfInBounds_toArray, List.set_cons_zero, List.set_cons_succ]
          refine regTake (i := 34) (v := .bool true) rfl (by kernel_rfl) (by kernel_rfl) (by kernel_rfl) (fun _ _ _ h => h) (Or.inl ⟨by rfl, ?hyg146_34⟩) (by assumption) ?_
          case hyg146_34 => (intro w hSw; (try dsimp only at hSw); go_simp; (try with_reducible rfl))
          try simp only [Act.put, List.setIfInBounds_toArray, List.set_cons_zero, List.set_cons_succ]
          refine regTake (i := 35) (v := ?vg146_35) rfl (by kernel_rfl) (by kernel_rfl) (by kernel_rfl) (fun _ _ _ h => h) (Or.inl ⟨by rfl, ?hyg146_35⟩) (by assumption) ?_
          case hyg146_35 => (intro w hSw; (try dsimp only at hSw); go_simp; (try with_reducible rfl))
          try simp only [Act.put, List.setIfInBounds_toArray, List.set_cons_zero, List.set_cons_succ]
          refine wpAnyH_done (by kernel_rfl) ?_ _
          have hlg146_ := below_trans hq137 hkg146_4
          replace xa4a := cell_keep xa4a hkg146_4
          replace xb4a := cell_keep xb4a hkg146_4
          replace xa4b := cell_keep xa4b hkg146_4
          replace xb4b := cell_keep xb4b hkg146_4
          go_wp2_with fail
          go_ret
          exact ⟨rfl, below_trans HBL.out hlg146_⟩
        · have EQ145 := hid hq145
          clear hq145
          have EQ167 := hid (show vld t4a = false from (by have h := EQ145.out; rw [subOf_self] at h; exact h))
          go_wp2_with fail
          refine wp_region_held_drew (S := (fun w' => Below (z137).heap.size (z137) w' ∧ w'.cell? ⟨z4.heap.size, 0, none⟩ = some (.int .i64 k4a) ∧ w'.cell? ⟨z4.heap.size, 1, none⟩ = some (.slice a4a n4a c4a) ∧ w'.cell? ⟨z4.heap.size + 1, 0, none⟩ = some (.int .i64 k4b) ∧ w'.cell? ⟨z4.heap.size + 1, 1, none⟩ = some (.slice a4b n4b c4b))) (by kernel_rfl) ?_ (fun hS0 => ?_)
          · (refine (fun hB => ⟨hB, cell_keep xa4a hB, cell_keep xb4a hB, cell_keep xa4b hB, cell_keep xb4b hB⟩ : Below (z137).heap.size (z137) _ → _) ?_; exact below_drew _)
          refine regTake (i := 0) (v := ?vg158_0) rfl (by kernel_rfl) (by kernel_rfl) (by kernel_rfl) (fun _ _ _ h => h) (Or.inl ⟨by rfl, ?hyg158_0⟩) (by assumption) ?_
          case hyg158_0 => (intro w hSw; (try dsimp only at hSw); go_simp; (try with_reducible rfl))
          try simp only [Act.put, List.setIfInBounds_toArray, List.set_cons_zero, List.set_cons_succ]
          refine regTake (i := 1) (v := ?vg158_1) rfl (by kernel_rfl) (by kernel_rfl) (by kernel_rfl) (fun _ _ _ h => h) (Or.inl ⟨by rfl, ?hyg158_1⟩) (by assumption) ?_
          case hyg158_1 => (intro w hSw; (try dsimp only at hSw); go_simp; (try with_reducible rfl))
          try simp only [Act.put, List.setIfInBounds_toArray, List.set_cons_zero, List.set_cons_succ]
          refine regTake (i := 2) (v := ?vg158_2) rfl (by kernel_rfl) (by kernel_rfl) (by kernel_rfl) (fun _ _ _ h => h) (Or.inl ⟨by rfl, ?hyg158_2⟩) (by assumption) ?_
          case hyg158_2 => (intro w hSw; (try dsimp only at hSw); go_simp; (try with_reducible rfl))
          try simp only [Act.put, List.setIfInBounds_toArray, List.set_cons_zero, List.set_cons_succ]
          refine wpAnyH_ready (rs := [3]) (by kernel_rfl) (by simp) ?_
          refine regCons rfl (fun K hK => ?_)
          go_simp
          have hc159 := specSubtype t4a t4b _ _ _ _ _ (HA4a.out.below (below_trans hq137 (below_drew (z137)))) (HA4b.out.below (below_trans hq137 (below_drew (z137))))
          rw [EQ7.out] at hc159
          refine hc159.mono ?_
          rintro e yg158_0 ⟨rfl, hyg158_0⟩
          have hkg158_0 := below_trans (below_drew (z137)) hyg158_0
          clear hc159
          refine hK.out _ _ ?_ (fun hS1 => ?_)
          · (refine (fun hB => ⟨hB, cell_keep xa4a hB, cell_keep xb4a hB, cell_keep xa4b hB, cell_keep xb4b hB⟩ : Below (z137).heap.size (z137) _ → _) ?_; exact hkg158_0)
          clear hK K hS0
          try simp only [Act.put, List.setIfInBounds_toArray, List.set_cons_zero, List.set_cons_succ]
          refine regTake (i := 4) (v := ?vg158_4) rfl (by kernel_rfl) (by kernel_rfl) (by kernel_rfl) (fun _ _ _ h => h) (Or.inl ⟨by rfl, ?hyg158_4⟩) (by assumption) ?_
          case hyg158_4 => (intro w hSw; (try dsimp only at hSw); go_simp; (try with_reducible rfl))
          try simp only [Act.put, List.setIfInBounds_toArray, List.set_cons_zero, List.set_cons_succ]
          refine regTake (i := 5) (v := ?vg158_5) rfl (by kernel_rfl) (by kernel_rfl) (by kernel_rfl) (fun _ _ _ h => h) (Or.inl ⟨by rfl, ?hyg158_5⟩) (by assumption) ?_
          case hyg158_5 => (intro w hSw; (try dsimp only at hSw); go_simp; (try with_reducible rfl))
          try simp only [Act.put, List.setIfInBounds_toArray, List.set_cons_zero, List.set_cons_succ]
          refine regTake (i := 6) (v := ?vg158_6) rfl (by kernel_rfl) (by kernel_rfl) (by kernel_rfl) (fun _ _ _ h => h) (Or.inl ⟨by rfl, ?hyg158_6⟩) (by assumption) ?_
          case hyg158_6 => (intro w hSw; (try dsimp only at hSw); go_simp; (try with_reducible rfl))
          try simp only [Act.put, List.setIfInBounds_toArray, List.set_cons_zero, List.set_cons_succ]
          refine regTake (i := 7) (v := ?vg158_7) rfl (by kernel_rfl) (by kernel_rfl) (by kernel_rfl) (fun _ _ _ h => h) (Or.inl ⟨by rfl, ?hyg158_7⟩) (by assumption) ?_
          case hyg158_7 => (intro w hSw; (try dsimp only at hSw); go_simp; (try with_reducible rfl))
          try simp only [Act.put, List.setIfInBounds_toArray, List.set_cons_zero, List.set_cons_succ]
          refine regTake (i := 8) (v := ?vg158_8) rfl (by kernel_rfl) (by kernel_rfl) (by kernel_rfl) (fun _ _ _ h => h) (Or.inl ⟨by rfl, ?hyg158_8⟩) (by assumption) ?_
          case hyg158_8 => (intro w hSw; (try dsimp only at hSw); go_simp; (try with_reducible rfl))
          try simp only [Act.put, List.setIfInBounds_toArray, List.set_cons_zero, List.set_cons_succ]
          refine wpAnyH_ready (rs := [9]) (by kernel_rfl) (by simp) ?_
          refine regCons rfl (fun K hK => ?_)
          go_simp
          have hc161 := specSubPositive t4a t4b _ _ _ _ _ (HA4a.out.below (below_trans hq137 (hkg158_0))) (HA4b.out.below (below_trans hq137 (hkg158_0)))
          rw [EQ55.out] at hc161
          refine hc161.mono ?_
          rintro e yg158_1 ⟨rfl, hyg158_1⟩
          have hkg158_1 := below_trans (hkg158_0) hyg158_1
          clear hc161
          refine hK.out _ _ ?_ (fun hS2 => ?_)
          · (refine (fun hB => ⟨hB, cell_keep xa4a hB, cell_keep xb4a hB, cell_keep xa4b hB, cell_keep xb4b hB⟩ : Below (z137).heap.size (z137) _ → _) ?_; exact hkg158_1)
          clear hK K hS1
          try simp only [Act.put, List.setIfInBounds_toArray, List.set_cons_zero, List.set_cons_succ]
          refine regTake (i := 10) (v := ?vg158_10) rfl (by kernel_rfl) (by kernel_rfl) (by kernel_rfl) (fun _ _ _ h => h) (Or.inl ⟨by rfl, ?hyg158_10⟩) (by assumption) ?_
          case hyg158_10 => (intro w hSw; (try dsimp only at hSw); go_simp; (try with_reducible rfl))
          try simp only [Act.put, List.setIfInBounds_toArray, List.set_cons_zero, List.set_cons_succ]
          refine regTake (i := 11) (v := .bool true) rfl (by kernel_rfl) (by kernel_rfl) (by kernel_rfl) (fun _ _ _ h => h) (Or.inl ⟨by rfl, ?hyg158_11⟩) (by assumption) ?_
          case hyg158_11 => (intro w hSw; (try dsimp only at hSw); go_simp; (try with_reducible rfl))
          try simp only [Act.put, List.setIfInBounds_toArray, List.set_cons_zero, List.set_cons_succ]
          refine regTake (i := 12) (v := ?vg158_12) rfl (by kernel_rfl) (by kernel_rfl) (by kernel_rfl) (fun _ _ _ h => h) (Or.inl ⟨by rfl, ?hyg158_12⟩) (by assumption) ?_
          case hyg158_12 => (intro w hSw; (try dsimp only at hSw); go_simp; (try with_reducible rfl))
          try simp only [Act.put, List.setIfInBounds_toArray, List.set_cons_zero, List.set_cons_succ]
          refine regTake (i := 13) (v := ?vg158_13) rfl (by kernel_rfl) (by kernel_rfl) (by kernel_rfl) (fun _ _ _ h => h) (Or.inl ⟨by rfl, ?hyg158_13⟩) (by assumption) ?_
          case hyg158_13 => (intro w hSw; (try dsimp only at hSw); go_simp; (try with_reducible rfl))
          try simp only [Act.put, List.setIfInBounds_toArray, List.set_cons_zero, List.set_cons_succ]
          refine regTake (i := 14) (v := ?vg158_14) rfl (by kernel_rfl) (by kernel_rfl) (by kernel_rfl) (fun _ _ _ h => h) (Or.inl ⟨by rfl, ?hyg158_14⟩) (by assumption) ?_
          case hyg158_14 => (intro w hSw; (try dsimp only at hSw); go_simp; (try with_reducible rfl))
          try simp only [Act.put, List.setIfInBounds_toArray, List.set_cons_zero, List.set_cons_succ]
          refine regTake (i := 15) (v := ?vg158_15) rfl (by kernel_rfl) (by kernel_rfl) (by kernel_rfl) (fun _ _ _ h => h) (Or.inl ⟨by rfl, ?hyg158_15⟩) (by assumption) ?_
          case hyg158_15 => (intro w hSw; (try dsimp only at hSw); go_simp; (try with_reducible rfl))
          try simp only [Act.put, List.setIfInBounds_toArray, List.set_cons_zero, List.set_cons_succ]
          refine wpAnyH_ready (rs := [16]) (by kernel_rfl) (by simp) ?_
          refine regCons rfl (fun K hK => ?_)
          go_simp
          have hc163 := specSubNegative t4a t4b _ _ _ _ _ (HA4a.out.below (below_trans hq137 (hkg158_1))) (HA4b.out.below (below_trans hq137 (hkg158_1)))
          rw [EQ99.out] at hc163
          refine hc163.mono ?_
          rintro e yg158_2 ⟨rfl, hyg158_2⟩
          have hkg158_2 := below_trans (hkg158_1) hyg158_2
          clear hc163
          refine hK.out _ _ ?_ (fun hS3 => ?_)
          · (refine (fun hB => ⟨hB, cell_keep xa4a hB, cell_keep xb4a hB, cell_keep xa4b hB, cell_keep xb4b hB⟩ : Below (z137).heap.size (z137) _ → _) ?_; exact hkg158_2)
          clear hK K hS2
          try simp only [Act.put, List.setIfInBounds_toArray, List.set_cons_zero, List.set_cons_succ]
          refine regTake (i := 17) (v := ?vg158_17) rfl (by kernel_rfl) (by kernel_rfl) (by kernel_rfl) (fun _ _ _ h => h) (Or.inl ⟨by rfl, ?hyg158_17⟩) (by assumption) ?_
          case hyg158_17 => (intro w hSw; (try dsimp only at hSw); go_simp; (try with_reducible rfl))
          try simp only [Act.put, List.setIfInBounds_toArray, List.set_cons_zero, List.set_cons_succ]
          refine regTake (i := 18) (v := .bool true) rfl (by kernel_rfl) (by kernel_rfl) (by kernel_rfl) (fun _ _ _ h => h) (Or.inl ⟨by rfl, ?hyg158_18⟩) (by assumption) ?_
          case hyg158_18 => (intro w hSw; (try dsimp only at hSw); go_simp; (try with_reducible rfl))
          try simp only [Act.put, List.setIfInBounds_toArray, List.set_cons_zero, List.set_cons_succ]
          refine regTake (i := 19) (v := ?vg158_19) rfl (by kernel_rfl) (by kernel_rfl) (by kernel_rfl) (fun _ _ _ h => h) (Or.inl ⟨by rfl, ?hyg158_19⟩) (by assumption) ?_
          case hyg158_19 => (intro w hSw; (try dsimp only at hSw); go_simp; (try with_reducible rfl))
          try simp only [Act.put, List.setIfInBounds_toArray, List.set_cons_zero, List.set_cons_succ]
          refine regTake (i := 20) (v := ?vg158_20) rfl (by kernel_rfl) (by kernel_rfl) (by kernel_rfl) (fun _ _ _ h => h) (Or.inl ⟨by rfl, ?hyg158_20⟩) (by assumption) ?_
          case hyg158_20 => (intro w hSw; (try dsimp only at hSw); go_simp; (try with_reducible rfl))
          try simp only [Act.put, List.setIfInBounds_toArray, List.set_cons_zero, List.set_cons_succ]
          refine regTake (i := 21) (v := ?vg158_21) rfl (by kernel_rfl) (by kernel_rfl) (by kernel_rfl) (fun _ _ _ h => h) (Or.inl ⟨by rfl, ?hyg158_21⟩) (by assumption) ?_
          case hyg158_21 => (intro w hSw; (try dsimp only at hSw); go_simp; (try with_reducible rfl))
          try simp only [Act.put, List.setIfInBounds_toArray, List.set_cons_zero, List.set_cons_succ]
          refine regTake (i := 22) (v := ?vg158_22) rfl (by kernel_rfl) (by kernel_rfl) (by kernel_rfl) (fun _ _ _ h => h) (Or.inl ⟨by rfl, ?hyg158_22⟩) (by assumption) ?_
          case hyg158_22 => (intro w hSw; (try dsimp only at hSw); go_simp; (try with_reducible rfl))
          try simp only [Act.put, List.setIfInBounds_toArray, List.set_cons_zero, List.set_cons_succ]
          refine regTake (i := 23) (v := undef) rfl (by kernel_rfl) (by kernel_rfl) (by kernel_rfl) (fun _ _ _ h => h) (Or.inr ⟨by rfl, rfl⟩) (by assumption) ?_
          try simp only [Act.put, List.setIfInBounds_toArray, List.set_cons_zero, List.set_cons_succ]
          refine regTake (i := 24) (v := .bool false) rfl (by kernel_rfl) (by kernel_rfl) (by kernel_rfl) (fun _ _ _ h => h) (Or.inl ⟨by rfl, ?hyg158_24⟩) (by assumption) ?_
          case hyg158_24 => (intro w hSw; (try dsimp only at hSw); go_simp; (try with_reducible rfl))
          try simp only [Act.put, List.setIfInBounds_toArray, List.set_cons_zero, List.set_cons_succ]
          refine regTake (i := 25) (v := ?vg158_25) rfl (by kernel_rfl) (by kernel_rfl) (by kernel_rfl) (fun _ _ _ h => h) (Or.inl ⟨by rfl, ?hyg158_25⟩) (by assumption) ?_
          case hyg158_25 => (intro w hSw; (try dsimp only at hSw); go_simp; (try with_reducible rfl))
          try simp only [Act.put, List.setIfInBounds_toArray, List.set_cons_zero, List.set_cons_succ]
          refine regTake (i := 26) (v := .bool true) rfl (by kernel_rfl) (by kernel_rfl) (by kernel_rfl) (fun _ _ _ h => h) (Or.inl ⟨by rfl, ?hyg158_26⟩) (by assumption) ?_
          case hyg158_26 => (intro w hSw; (try dsimp only at hSw); go_simp; (try with_reducible rfl))
          try simp only [Act.put, List.setIfInBounds_toArray, List.set_cons_zero, List.set_cons_succ]
          refine regTake (i := 27) (v := ?vg158_27) rfl (by kernel_rfl) (by kernel_rfl) (by kernel_rfl) (fun _ _ _ h => h) (Or.inl ⟨by rfl, ?hyg158_27⟩) (by assumption) ?_
          case hyg158_27 => (intro w hSw; (try dsimp only at hSw); go_simp; (try with_reducible rfl))
          try simp only [Act.put, List.setIfInBounds_toArray, List.set_cons_zero, List.set_cons_succ]
          refine regTake (i := 28) (v := ?vg158_28) rfl (by kernel_rfl) (by kernel_rfl) (by kernel_rfl) (fun _ _ _ h => h) (Or.inl ⟨by rfl, ?hyg158_28⟩) (by assumption) ?_
          case hyg158_28 => (intro w hSw; (try dsimp only at hSw); go_simp; (try with_reducible rfl))
          try simp only [Act.put, List.setIfInBounds_toArray, List.set_cons_zero, List.set_cons_succ]
          refine regTake (i := 29) (v := ?vg158_29) rfl (by kernel_rfl) (by kernel_rfl) (by kernel_rfl) (fun _ _ _ h => h) (Or.inl ⟨by rfl, ?hyg158_29⟩) (by assumption) ?_
          case hyg158_29 => (intro w hSw; (try dsimp only at hSw); go_simp; (try with_reducible rfl))
          try simp only [Act.put, List.setIfInBounds_toArray, List.set_cons_zero, List.set_cons_succ]
          refine regTake (i := 31) (v := ?vg158_31) rfl (by kernel_rfl) (by kernel_rfl) (by kernel_rfl) (fun _ _ _ h => h) (Or.inl ⟨by rfl, ?hyg158_31⟩) (by assumption) ?_
          case hyg158_31 => (intro w hSw; (try dsimp only at hSw); go_simp; (try with_reducible rfl))
          try simp only [Act.put, List.setIfInBounds_toArray, List.set_cons_zero, List.set_cons_succ]
          refine wpAnyH_ready (rs := [30]) (by kernel_rfl) (by simp) ?_
          refine regCons rfl (fun K hK => ?_)
          go_simp
          have hc165 := implSubtype t4a t4a _ _ _ _ _ (HA4a.out.below (below_trans hq137 (hkg158_2))) (HA4a.out.below (below_trans hq137 (hkg158_2)))
          rw [EQ145.out] at hc165
          refine hc165.mono ?_
          rintro e yg158_3 ⟨rfl, hyg158_3⟩
          have hkg158_3 := below_trans (hkg158_2) hyg158_3
          clear hc165
          refine hK.out _ _ ?_ (fun hS4 => ?_)
          · (refine (fun hB => ⟨hB, cell_keep xa4a hB, cell_keep xb4a hB, cell_keep xa4b hB, cell_keep xb4b hB⟩ : Below (z137).heap.size (z137) _ → _) ?_; exact hkg158_3)
          clear hK K hS3
          try simp only [Act.put, List.setIfInBounds_toArray, List.set_cons_zero, List.set_cons_succ]
          refine wpAnyH_ready (rs := [32]) (by kernel_rfl) (by simp) ?_
          refine regCons rfl (fun K hK => ?_)
          go_simp
          have hc168 := implTypeValid_any t4a _ _ _ (HA4a.out.below (below_trans hq137 (hkg158_3)))
          rw [EQ167.out] at hc168
          refine hc168.mono ?_
          rintro e yg158_4 ⟨rfl, hyg158_4⟩
          have hkg158_4 := below_trans (hkg158_3) hyg158_4
          clear hc168
          refine hK.out _ _ ?_ (fun hS5 => ?_)
          · (refine (fun hB => ⟨hB, cell_keep xa4a hB, cell_keep xb4a hB, cell_keep xa4b hB, cell_keep xb4b hB⟩ : Below (z137).heap.size (z137) _ → _) ?_; exact hkg158_4)
          clear hK K hS4
          try simp only [Act.put, List.setIfInBounds_toArray, List.set_cons_zero, List.set_cons_succ]
          refine regTake (i := 33) (v := ?vg158_33) rfl (by kernel_rfl) (by kernel_rfl) (by kernel_rfl) (fun _ _ _ h => h) (Or.inl ⟨by rfl, ?hyg158_33⟩) (by assumption) ?_
          case hyg158_33 => (intro w hSw; (try dsimp only at hSw); go_simp; (try with_reducible rfl))
          try simp only [Act.put, List.setIfInBounds_toArray, List.set_cons_zero, List.set_cons_succ]
          refine regTake (i := 34) (v := .bool true) rfl (by kernel_rfl) (by kernel_rfl) (by kernel_rfl) (fun _ _ _ h => h) (Or.inl ⟨by rfl, ?hyg158_34⟩) (by assumption) ?_
          case hyg158_34 => (intro w hSw; (try dsimp only at hSw); go_simp; (try with_reducible rfl))
          try simp only [Act.put, List.setIfInBounds_toArray, List.set_cons_zero, List.set_cons_succ]
          refine regTake (i := 35) (v := ?vg158_35) rfl (by kernel_rfl) (by kernel_rfl) (by kernel_rfl) (fun _ _ _ h => h) (Or.inl ⟨by rfl, ?hyg158_35⟩) (by assumption) ?_
          case hyg158_35 => (intro w hSw; (try dsimp only at hSw); go_simp; (try with_reducible rfl))
          try simp only [Act.put, List.setIfInBounds_toArray, List.set_cons_zero, List.set_cons_succ]
          refine wpAnyH_done (by kernel_rfl) ?_ _
          have hlg158_ := below_trans hq137 hkg158_4
          replace xa4a := cell_keep xa4a hkg158_4
          replace xb4a := cell_keep xb4a hkg158_4
          replace xa4b := cell_keep xa4b hkg158_4
          replace xb4b := cell_keep xb4b hkg158_4
          go_wp2_with fail
          go_ret
          exact ⟨rfl, below_trans HBL.out hlg158_⟩
end Go.Proofs.Ytelbpgdlcnnabaa
