/- The law FnSubtypeBounds: it returns true and writes nothing that was there. -/
import Derived.Test.YtelbpgdlcnnabaaDr8
import Derived.Test.YtelbpgdlcnnabaaBdP8
import Derived.Test.YtelbpgdlcnnabaaReg
import Derived.Test.YtelbpgdlcnnabaaRaw
import Derived.Test.YtelbpgdlcnnabaaBlT
import Derived.Test.YtelbpgdlcnnabaaStat
import Derived.Deep.RegionHeld3
namespace Go.Proofs.Ytelbpgdlcnnabaa
open Go.RowKit

/-- Boxes that have just been laid. -/
theorem lay1 (w : World) (o1 : Obj) : (w.alloc o1).heap[w.heap.size]? = some o1 := alloc_new _ _
theorem lay2 (w : World) (o1 o2 : Obj) : ((w.alloc o1).alloc o2).heap[w.heap.size]? = some o1 ∧ ((w.alloc o1).alloc o2).heap[w.heap.size + 1]? = some o2 := by
  have h2 := alloc_new (w.alloc o1) o2
  have hs : (w.alloc o1).heap.size = w.heap.size + 1 := by simp
  rw [hs] at h2
  exact ⟨(Below.heap_alloc _ _ _ (by simp)).trans (alloc_new _ _), h2⟩
theorem lay3 (w : World) (o1 o2 o3 : Obj) : (((w.alloc o1).alloc o2).alloc o3).heap[w.heap.size]? = some o1 ∧ (((w.alloc o1).alloc o2).alloc o3).heap[w.heap.size + 1]? = some o2 ∧ (((w.alloc o1).alloc o2).alloc o3).heap[w.heap.size + 1 + 1]? = some o3 := by
  obtain ⟨a, b⟩ := lay2 w o1 o2
  have h3 := alloc_new ((w.alloc o1).alloc o2) o3
  have hs : ((w.alloc o1).alloc o2).heap.size = w.heap.size + 1 + 1 := by simp
  rw [hs] at h3
  exact ⟨(Below.heap_alloc _ _ _ (by simp; omega)).trans a, (Below.heap_alloc _ _ _ (by simp)).trans b, h3⟩


set_option linter.unusedSimpArgs false in
set_option linter.unusedVariables false in
set_option maxRecDepth 100000 in
set_option maxHeartbeats 16000000 in
theorem lawDSbB (a00 : Option Addr) (n00 cap00 : Nat) (w : World) (hB0 : BytA w a00 n00) (hn0 : n00 ≤ cap00) (hm0 : cap00 ≤ maxLen) :
    Calls Try.prog 12 #[.slice a00 n00 cap00] w fun e w' => e = .returned (.bool true) ∧ Below w.heap.size w w' := by
  by_cases hl0 : (n00 : Int) > 1048576
  · clear hB0
    go_enter Try.func12, Try.ntmps12
    go_wp2_with fail
    go_ret
    exact ⟨rfl, Below.refl _ _⟩
  have HBY0 := hid hB0
  have HNN0 := hid hn0
  have HMM0 := hid hm0
  clear hB0 hn0 hm0
  go_enter Try.func12, Try.ntmps12
  go_wp2_with fail
  refine (drawSubtype_any a00 n00 cap00 _ (HBY0.out.below (Below.refl _ _)) HNN0.out HMM0.out).mono ?_
  rintro e z4 ⟨t4a, t4b, v4a, v4b, f4a, f4b, rfl, -, ht4a, ht4b, hg4a, hg4b, hz4⟩
  obtain ⟨k4a, n4a, a4a, c4a, rfl⟩ := ht4a.agg
  obtain ⟨k4b, n4b, a4b, c4b, rfl⟩ := ht4b.agg
  have hba5 : Below z4.heap.size z4 ((z4.alloc (Obj.cells #[.int .i64 k4a, .slice a4a n4a c4a] 25)).alloc (Obj.cells #[.int .i64 k4b, .slice a4b n4b c4b] 25)) := (((Below.refl _ _).alloc (Nat.le_refl _) _).alloc (by simp) _)
  have hbb5 := below_trans hz4 hba5
  have hbc5 := hbb5
  have HBL := hid hbc5
  have hl5 := lay2 z4 (Obj.cells #[.int .i64 k4a, .slice a4a n4a c4a] 25) (Obj.cells #[.int .i64 k4b, .slice a4b n4b c4b] 25)
  have HA4a := hid (ht4a.below hba5)
  have HR4a := hid (show ∀ x ∈ f4a, Raw ((z4.alloc (Obj.cells #[.int .i64 k4a, .slice a4a n4a c4a] 25)).alloc (Obj.cells #[.int .i64 k4b, .slice a4b n4b c4b] 25)) x from fun x hx => Raw.below ⟨ht4a.laid x hx, (hg4a x hx).2⟩ hba5)
  have HA4b := hid (ht4b.below hba5)
  have HR4b := hid (show ∀ x ∈ f4b, Raw ((z4.alloc (Obj.cells #[.int .i64 k4a, .slice a4a n4a c4a] 25)).alloc (Obj.cells #[.int .i64 k4b, .slice a4b n4b c4b] 25)) x from fun x hx => Raw.below ⟨ht4b.laid x hx, (hg4b x hx).2⟩ hba5)
  have xa1_ : (((z4.alloc (Obj.cells #[.int .i64 k4a, .slice a4a n4a c4a] 25)).alloc (Obj.cells #[.int .i64 k4b, .slice a4b n4b c4b] 25))).cell? ⟨z4.heap.size, 0, none⟩ = some (.int .i64 k4a) := by rw [cell_of_block (hl5.1)]; rfl
  have xb1_ : (((z4.alloc (Obj.cells #[.int .i64 k4a, .slice a4a n4a c4a] 25)).alloc (Obj.cells #[.int .i64 k4b, .slice a4b n4b c4b] 25))).cell? ⟨z4.heap.size, 1, none⟩ = some (.slice a4a n4a c4a) := by rw [cell_of_block (hl5.1)]; rfl
  have xa2_ : (((z4.alloc (Obj.cells #[.int .i64 k4a, .slice a4a n4a c4a] 25)).alloc (Obj.cells #[.int .i64 k4b, .slice a4b n4b c4b] 25))).cell? ⟨z4.heap.size + 1, 0, none⟩ = some (.int .i64 k4b) := by rw [cell_of_block (hl5.2)]; rfl
  have xb2_ : (((z4.alloc (Obj.cells #[.int .i64 k4a, .slice a4a n4a c4a] 25)).alloc (Obj.cells #[.int .i64 k4b, .slice a4b n4b c4b] 25))).cell? ⟨z4.heap.size + 1, 1, none⟩ = some (.slice a4b n4b c4b) := by rw [cell_of_block (hl5.2)]; rfl
  have h05 := Below.refl (((z4.alloc (Obj.cells #[.int .i64 k4a, .slice a4a n4a c4a] 25)).alloc (Obj.cells #[.int .i64 k4b, .slice a4b n4b c4b] 25))).heap.size ((z4.alloc (Obj.cells #[.int .i64 k4a, .slice a4a n4a c4a] 25)).alloc (Obj.cells #[.int .i64 k4b, .slice a4b n4b c4b] 25))
  clear ht4a
  clear ht4b
  clear hba5 hbb5 hbc5 hl5 hz4
  rcases Bool.eq_false_or_eq_true (subOf 0 t4a t4b) with hq7 | hq7
  · have EQ7 := hid hq7
    clear hq7
    go_wp2_with fail
    have hc9 := implSubtype t4a t4b _ _ _ _ _ (HA4a.out.below h05) (HA4b.out.below h05)
    rw [EQ7.out] at hc9
    refine hc9.mono ?_
    rintro e z10 ⟨rfl, hz10⟩
    have hq10 := below_trans h05 hz10
    replace xa1_ := cell_keep xa1_ hz10
    replace xb1_ := cell_keep xb1_ hz10
    replace xa2_ := cell_keep xa2_ hz10
    replace xb2_ := cell_keep xb2_ hz10
    clear hc9 hz10
    have hba13 : Below z10.heap.size z10 (z10.alloc (Obj.cells #[.int .i64 1, .slice none 0 0] 25)) := ((Below.refl _ _).alloc (Nat.le_refl _) _)
    have hbb13 := hba13
    have hbc13 := below_trans hq10 hbb13
    replace HA4a := hid (HA4a.out.below hbc13)
    replace HR4a := hid (fun x hx => (HR4a.out x hx).below hbc13)
    replace HA4b := hid (HA4b.out.below hbc13)
    replace HR4b := hid (fun x hx => (HR4b.out x hx).below hbc13)
    replace HBL := hid (below_trans HBL.out hbc13)
    replace xa1_ := cell_keep xa1_ hbb13
    replace xb1_ := cell_keep xb1_ hbb13
    replace xa2_ := cell_keep xa2_ hbb13
    replace xb2_ := cell_keep xb2_ hbb13
    have hl13 := lay1 z10 (Obj.cells #[.int .i64 1, .slice none 0 0] 25)
    have HAL12 := hid (show Ty.At (z10.alloc (Obj.cells #[.int .i64 1, .slice none 0 0] 25)) (.mk 1 []) (.agg #[.int .i64 1, .slice none 0 0]) [] from Ty.at_mk.2 ⟨_, rfl, .inl ⟨rfl, rfl, _, _, rfl⟩⟩)
    have HRL12 := hid (show ∀ x ∈ ([] : List Nat), Raw (z10.alloc (Obj.cells #[.int .i64 1, .slice none 0 0] 25)) x from fun x hx => by cases hx)
    have HCL12 := hid (show ((.mk 1 []) : Ty).cnt ≤ 0 from by simp [Ty.cnt, cntL])
    have xa3_ : ((z10.alloc (Obj.cells #[.int .i64 1, .slice none 0 0] 25))).cell? ⟨z10.heap.size, 0, none⟩ = some (.int .i64 1) := by rw [cell_of_block (hl13)]; rfl
    have xb3_ : ((z10.alloc (Obj.cells #[.int .i64 1, .slice none 0 0] 25))).cell? ⟨z10.heap.size, 1, none⟩ = some (.slice none 0 0) := by rw [cell_of_block (hl13)]; rfl
    have h013 := Below.refl ((z10.alloc (Obj.cells #[.int .i64 1, .slice none 0 0] 25))).heap.size (z10.alloc (Obj.cells #[.int .i64 1, .slice none 0 0] 25))
    clear hba13 hbb13 hbc13 hl13
    go_wp2_with fail
    have hc15 := specSubtype t4a t4b _ _ _ _ _ (HA4a.out.below h013) (HA4b.out.below h013)
    rw [EQ7.out] at hc15
    refine hc15.mono ?_
    rintro e z16 ⟨rfl, hz16⟩
    have hq16 := below_trans h013 hz16
    replace xa1_ := cell_keep xa1_ hz16
    replace xb1_ := cell_keep xb1_ hz16
    replace xa2_ := cell_keep xa2_ hz16
    replace xb2_ := cell_keep xb2_ hz16
    replace xa3_ := cell_keep xa3_ hz16
    replace xb3_ := cell_keep xb3_ hz16
    clear hc15 hz16
    have EQ17 := hid (show vld t4a = true from (by have h := EQ7.out; simp only [subOf, Bool.and_eq_true] at h; exact h.1.1))
    go_wp2_with fail
    have hc18 := implTypeValid_any t4a _ _ _ (HA4a.out.below hq16)
    rw [EQ17.out] at hc18
    refine hc18.mono ?_
    rintro e z19 ⟨rfl, hz19⟩
    have hq19 := below_trans hq16 hz19
    replace xa1_ := cell_keep xa1_ hz19
    replace xb1_ := cell_keep xb1_ hz19
    replace xa2_ := cell_keep xa2_ hz19
    replace xb2_ := cell_keep xb2_ hz19
    replace xa3_ := cell_keep xa3_ hz19
    replace xb3_ := cell_keep xb3_ hz19
    clear hc18 hz19
    have EQ20 := hid (show vld t4b = true from (by have h := EQ7.out; simp only [subOf, Bool.and_eq_true] at h; exact h.1.2))
    go_wp2_with fail
    have hc21 := implTypeValid_any t4b _ _ _ (HA4b.out.below hq19)
    rw [EQ20.out] at hc21
    refine hc21.mono ?_
    rintro e z22 ⟨rfl, hz22⟩
    have hq22 := below_trans hq19 hz22
    replace xa1_ := cell_keep xa1_ hz22
    replace xb1_ := cell_keep xb1_ hz22
    replace xa2_ := cell_keep xa2_ hz22
    replace xb2_ := cell_keep xb2_ hz22
    replace xa3_ := cell_keep xa3_ hz22
    replace xb3_ := cell_keep xb3_ hz22
    clear hc21 hz22
    rcases Bool.eq_false_or_eq_true (staOf t4a) with hq24 | hq24
    · have EQ24 := hid hq24
      clear hq24
      rcases Bool.eq_false_or_eq_true (staOf t4b) with hq28 | hq28
      · have EQ28 := hid hq28
        clear hq28
        go_wp2_with fail
        have hc30 := implIsStatic t4a _ _ _ (HA4a.out.below hq22) (by have := cnt_shp4 (t := t4a) EQ17.out; omega)
        rw [EQ24.out] at hc30
        refine hc30.mono ?_
        rintro e z31 ⟨rfl, hz31⟩
        have hq31 := below_trans hq22 hz31
        replace xa1_ := cell_keep xa1_ hz31
        replace xb1_ := cell_keep xb1_ hz31
        replace xa2_ := cell_keep xa2_ hz31
        replace xb2_ := cell_keep xb2_ hz31
        replace xa3_ := cell_keep xa3_ hz31
        replace xb3_ := cell_keep xb3_ hz31
        clear hc30 hz31
        go_wp2_with fail
        have hc32 := implIsStatic t4b _ _ _ (HA4b.out.below hq31) (by have := cnt_shp4 (t := t4b) EQ20.out; omega)
        rw [EQ28.out] at hc32
        refine hc32.mono ?_
        rintro e z33 ⟨rfl, hz33⟩
        have hq33 := below_trans hq31 hz33
        replace xa1_ := cell_keep xa1_ hz33
        replace xb1_ := cell_keep xb1_ hz33
        replace xa2_ := cell_keep xa2_ hz33
        replace xb2_ := cell_keep xb2_ hz33
        replace xa3_ := cell_keep xa3_ hz33
        replace xb3_ := cell_keep xb3_ hz33
        clear hc32 hz33
        have EQ34 := hid (show tyEq t4a t4b = true from (by rw [← sub_sta t4a t4b EQ24.out EQ28.out]; exact EQ7.out))
        go_wp2_with fail
        have hc35 := implTypeSame t4a t4b _ _ _ _ _ (by have := cnt_shp4 (t := t4a) EQ17.out; omega) (HA4a.out.below hq33) (HA4b.out.below hq33) (fun x hx => (HR4a.out x hx).below hq33) (fun x hx => (HR4b.out x hx).below hq33)
        rw [EQ34.out] at hc35
        refine hc35.mono ?_
        rintro e z36 ⟨rfl, hz36⟩
        have hq36 := below_trans hq33 hz36
        replace xa1_ := cell_keep xa1_ hz36
        replace xb1_ := cell_keep xb1_ hz36
        replace xa2_ := cell_keep xa2_ hz36
        replace xb2_ := cell_keep xb2_ hz36
        replace xa3_ := cell_keep xa3_ hz36
        replace xb3_ := cell_keep xb3_ hz36
        clear hc35 hz36
        rcases Bool.eq_false_or_eq_true (subOf 1 (.mk 1 []) t4a) with hq44 | hq44
        · have EQ44 := hid hq44
          clear hq44
          have EQ46 := hid (show subOf 1 t4a (.mk 1 []) = true from sub_unk2 t4a EQ17.out)
          have EQ49 := hid (show subOf (-1) (.mk 1 []) t4a = true from sub_unk3 t4a EQ17.out)
          have EQ54 := hid (show tyEq (.mk 1 []) t4a = true from (by rw [← sub_unk1 t4a EQ17.out]; exact EQ44.out))
          go_wp2_with fail
          refine wp_region_held_drew (S := (fun w' => Below (z36).heap.size (z36) w' ∧ w'.cell? ⟨z4.heap.size, 0, none⟩ = some (.int .i64 k4a) ∧ w'.cell? ⟨z4.heap.size, 1, none⟩ = some (.slice a4a n4a c4a) ∧ w'.cell? ⟨z4.heap.size + 1, 0, none⟩ = some (.int .i64 k4b) ∧ w'.cell? ⟨z4.heap.size + 1, 1, none⟩ = some (.slice a4b n4b c4b) ∧ w'.cell? ⟨z10.heap.size, 0, none⟩ = some (.int .i64 1) ∧ w'.cell? ⟨z10.heap.size, 1, none⟩ = some (.slice none 0 0))) (by kernel_rfl) ?_ (fun hS0 => ?_)
          · (refine (fun hB => ⟨hB, cell_keep xa1_ hB, cell_keep xb1_ hB, cell_keep xa2_ hB, cell_keep xb2_ hB, cell_keep xa3_ hB, cell_keep xb3_ hB⟩ : Below (z36).heap.size (z36) _ → _) ?_; exact below_drew _)
          refine regTake (i := 0) (v := ?vg45_0) rfl (by kernel_rfl) (by kernel_rfl) (by kernel_rfl) (fun _ _ _ h => h) (Or.inl ⟨by rfl, ?hyg45_0⟩) (by assumption) ?_
          case hyg45_0 => (intro w hSw; (try dsimp only at hSw); go_simp; (try with_reducible rfl))
          try simp only [Act.put, List.setIfInBounds_toArray, List.set_cons_zero, List.set_cons_succ]
          refine regTake (i := 1) (v := ?vg45_1) rfl (by kernel_rfl) (by kernel_rfl) (by kernel_rfl) (fun _ _ _ h => h) (Or.inl ⟨by rfl, ?hyg45_1⟩) (by assumption) ?_
          case hyg45_1 => (intro w hSw; (try dsimp only at hSw); go_simp; (try with_reducible rfl))
          try simp only [Act.put, List.setIfInBounds_toArray, List.set_cons_zero, List.set_cons_succ]
          refine wpAnyH_ready (rs := [2]) (by kernel_rfl) (by simp) ?_
          refine regCons rfl (fun K hK => ?_)
          go_simp
          have hc47 := implSubPositive t4a (.mk 1 []) _ _ _ _ _ (HA4a.out.below (below_trans hq36 (below_drew (z36)))) (HAL12.out.below (below_trans hq36 (below_drew (z36))))
          rw [EQ46.out] at hc47
          refine hc47.mono ?_
          rintro e yg45_0 ⟨rfl, hyg45_0⟩
          have hkg45_0 := below_trans (below_drew (z36)) hyg45_0
          clear hc47
          refine hK.out _ _ ?_ (fun hS1 => ?_)
          · (refine (fun hB => ⟨hB, cell_keep xa1_ hB, cell_keep xb1_ hB, cell_keep xa2_ hB, cell_keep xb2_ hB, cell_keep xa3_ hB, cell_keep xb3_ hB⟩ : Below (z36).heap.size (z36) _ → _) ?_; exact hkg45_0)
          clear hK K hS0
          try simp only [Act.put, List.setIfInBounds_toArray, List.set_cons_zero, List.set_cons_succ]
          refine regTake (i := 3) (v := ?vg45_3) rfl (by kernel_rfl) (by kernel_rfl) (by kernel_rfl) (fun _ _ _ h => h) (Or.inl ⟨by rfl, ?hyg45_3⟩) (by assumption) ?_
          case hyg45_3 => (intro w hSw; (try dsimp only at hSw); go_simp; (try with_reducible rfl))
          try simp only [Act.put, List.setIfInBounds_toArray, List.set_cons_zero, List.set_cons_succ]
          refine regTake (i := 4) (v := ?vg45_4) rfl (by kernel_rfl) (by kernel_rfl) (by kernel_rfl) (fun _ _ _ h => h) (Or.inl ⟨by rfl, ?hyg45_4⟩) (by assumption) ?_
          case hyg45_4 => (intro w hSw; (try dsimp only at hSw); go_simp; (try with_reducible rfl))
          try simp only [Act.put, List.setIfInBounds_toArray, List.set_cons_zero, List.set_cons_succ]
          refine regTake (i := 5) (v := ?vg45_5) rfl (by kernel_rfl) (by kernel_rfl) (by kernel_rfl) (fun _ _ _ h => h) (Or.inl ⟨by rfl, ?hyg45_5⟩) (by assumption) ?_
          case hyg45_5 => (intro w hSw; (try dsimp only at hSw); go_simp; (try with_reducible rfl))
          try simp only [Act.put, List.setIfInBounds_toArray, List.set_cons_zero, List.set_cons_succ]
          refine wpAnyH_ready (rs := [6]) (by kernel_rfl) (by simp) ?_
          refine regCons rfl (fun K hK => ?_)
          go_simp
          have hc50 := implSubNegative (.mk 1 []) t4a _ _ _ _ _ (HAL12.out.below (below_trans hq36 (hkg45_0))) (HA4a.out.below (below_trans hq36 (hkg45_0)))
          rw [EQ49.out] at hc50
          refine hc50.mono ?_
          rintro e yg45_1 ⟨rfl, hyg45_1⟩
          have hkg45_1 := below_trans (hkg45_0) hyg45_1
          clear hc50
          refine hK.out _ _ ?_ (fun hS2 => ?_)
          · (refine (fun hB => ⟨hB, cell_keep xa1_ hB, cell_keep xb1_ hB, cell_keep xa2_ hB, cell_keep xb2_ hB, cell_keep xa3_ hB, cell_keep xb3_ hB⟩ : Below (z36).heap.size (z36) _ → _) ?_; exact hkg45_1)
          clear hK K hS1
          try simp only [Act.put, List.setIfInBounds_toArray, List.set_cons_zero, List.set_cons_succ]
          refine regTake (i := 7) (v := .bool true) rfl (by kernel_rfl) (by kernel_rfl) (by kernel_rfl) (fun _ _ _ h => h) (Or.inl ⟨by rfl, ?hyg45_7⟩) (by assumption) ?_
          case hyg45_7 => (intro w hSw; (try dsimp only at hSw); go_simp; (try with_reducible rfl))
          try simp only [Act.put, List.setIfInBounds_toArray, List.set_cons_zero, List.set_cons_succ]
          refine regTake (i := 8) (v := ?vg45_8) rfl (by kernel_rfl) (by kernel_rfl) (by kernel_rfl) (fun _ _ _ h => h) (Or.inl ⟨by rfl, ?hyg45_8⟩) (by assumption) ?_
          case hyg45_8 => (intro w hSw; (try dsimp only at hSw); go_simp; (try with_reducible rfl))
          try simp only [Act.put, List.setIfInBounds_toArray, List.set_cons_zero, List.set_cons_succ]
          refine regTake (i := 9) (v := ?vg45_9) rfl (by kernel_rfl) (by kernel_rfl) (by kernel_rfl) (fun _ _ _ h => h) (Or.inl ⟨by rfl, ?hyg45_9⟩) (by assumption) ?_
          case hyg45_9 => (intro w hSw; (try dsimp only at hSw); go_simp; (try with_reducible rfl))
          try simp only [Act.put, List.setIfInBounds_toArray, List.set_cons_zero, List.set_cons_succ]
          refine regTake (i := 10) (v := ?vg45_10) rfl (by kernel_rfl) (by kernel_rfl) (by kernel_rfl) (fun _ _ _ h => h) (Or.inl ⟨by rfl, ?hyg45_10⟩) (by assumption) ?_
          case hyg45_10 => (intro w hSw; (try dsimp only at hSw); go_simp; (try with_reducible rfl))
          try simp only [Act.put, List.setIfInBounds_toArray, List.set_cons_zero, List.set_cons_succ]
          refine regTake (i := 12) (v := ?vg45_12) rfl (by kernel_rfl) (by kernel_rfl) (by kernel_rfl) (fun _ _ _ h => h) (Or.inl ⟨by rfl, ?hyg45_12⟩) (by assumption) ?_
          case hyg45_12 => (intro w hSw; (try dsimp only at hSw); go_simp; (try with_reducible rfl))
          try simp only [Act.put, List.setIfInBounds_toArray, List.set_cons_zero, List.set_cons_succ]
          refine regTake (i := 13) (v := ?vg45_13) rfl (by kernel_rfl) (by kernel_rfl) (by kernel_rfl) (fun _ _ _ h => h) (Or.inl ⟨by rfl, ?hyg45_13⟩) (by assumption) ?_
          case hyg45_13 => (intro w hSw; (try dsimp only at hSw); go_simp; (try with_reducible rfl))
          try simp only [Act.put, List.setIfInBounds_toArray, List.set_cons_zero, List.set_cons_succ]
          refine wpAnyH_ready (rs := [11]) (by kernel_rfl) (by simp) ?_
          refine regCons rfl (fun K hK => ?_)
          go_simp
          have hc52 := implSubPositive (.mk 1 []) t4a _ _ _ _ _ (HAL12.out.below (below_trans hq36 (hkg45_1))) (HA4a.out.below (below_trans hq36 (hkg45_1)))
          rw [EQ44.out] at hc52
          refine hc52.mono ?_
          rintro e yg45_2 ⟨rfl, hyg45_2⟩
          have hkg45_2 := below_trans (hkg45_1) hyg45_2
          clear hc52
          refine hK.out _ _ ?_ (fun hS3 => ?_)
          · (refine (fun hB => ⟨hB, cell_keep xa1_ hB, cell_keep xb1_ hB, cell_keep xa2_ hB, cell_keep xb2_ hB, cell_keep xa3_ hB, cell_keep xb3_ hB⟩ : Below (z36).heap.size (z36) _ → _) ?_; exact hkg45_2)
          clear hK K hS2
          try simp only [Act.put, List.setIfInBounds_toArray, List.set_cons_zero, List.set_cons_succ]
          refine wpAnyH_ready (rs := [14]) (by kernel_rfl) (by simp) ?_
          refine regCons rfl (fun K hK => ?_)
          go_simp
          have hc55 := implTypeSame (.mk 1 []) t4a _ _ _ _ _ (by have := HCL12.out; omega) (HAL12.out.below (below_trans hq36 (hkg45_2))) (HA4a.out.below (below_trans hq36 (hkg45_2))) (fun x hx => (HRL12.out x hx).below (below_trans hq36 (hkg45_2))) (fun x hx => (HR4a.out x hx).below (below_trans hq36 (hkg45_2)))
          rw [EQ54.out] at hc55
          refine hc55.mono ?_
          rintro e yg45_3 ⟨rfl, hyg45_3⟩
          have hkg45_3 := below_trans (hkg45_2) hyg45_3
          clear hc55
          refine hK.out _ _ ?_ (fun hS4 => ?_)
          · (refine (fun hB => ⟨hB, cell_keep xa1_ hB, cell_keep xb1_ hB, cell_keep xa2_ hB, cell_keep xb2_ hB, cell_keep xa3_ hB, cell_keep xb3_ hB⟩ : Below (z36).heap.size (z36) _ → _) ?_; exact hkg45_3)
          clear hK K hS3
          try simp only [Act.put, List.setIfInBounds_toArray, List.set_cons_zero, List.set_cons_succ]
          refine regTake (i := 15) (v := ?vg45_15) rfl (by kernel_rfl) (by kernel_rfl) (by kernel_rfl) (fun _ _ _ h => h) (Or.inl ⟨by rfl, ?hyg45_15⟩) (by assumption) ?_
          case hyg45_15 => (intro w hSw; (try dsimp only at hSw); go_simp; (try with_reducible rfl))
          try simp only [Act.put, List.setIfInBounds_toArray, List.set_cons_zero, List.set_cons_succ]
          refine regTake (i := 16) (v := .bool true) rfl (by kernel_rfl) (by kernel_rfl) (by kernel_rfl) (fun _ _ _ h => h) (Or.inl ⟨by rfl, ?hyg45_16⟩) (by assumption) ?_
          case hyg45_16 => (intro w hSw; (try dsimp only at hSw); go_simp; (try with_reducible rfl))
          try simp only [Act.put, List.setIfInBounds_toArray, List.set_cons_zero, List.set_cons_succ]
          refine regTake (i := 17) (v := ?vg45_17) rfl (by kernel_rfl) (by kernel_rfl) (by kernel_rfl) (fun _ _ _ h => h) (Or.inl ⟨by rfl, ?hyg45_17⟩) (by assumption) ?_
          case hyg45_17 => (intro w hSw; (try dsimp only at hSw); go_simp; (try with_reducible rfl))
          try simp only [Act.put, List.setIfInBounds_toArray, List.set_cons_zero, List.set_cons_succ]
          refine wpAnyH_done (by kernel_rfl) ?_ _
          have hlg45_ := below_trans hq36 hkg45_3
          replace xa1_ := cell_keep xa1_ hkg45_3
          replace xb1_ := cell_keep xb1_ hkg45_3
          replace xa2_ := cell_keep xa2_ hkg45_3
          replace xb2_ := cell_keep xb2_ hkg45_3
          replace xa3_ := cell_keep xa3_ hkg45_3
          replace xb3_ := cell_keep xb3_ hkg45_3
          go_wp2_with fail
          go_ret
          exact ⟨rfl, below_trans HBL.out hlg45_⟩
        · have EQ44 := hid hq44
          clear hq44
          have EQ58 := hid (show subOf 1 t4a (.mk 1 []) = true from sub_unk2 t4a EQ17.out)
          have EQ61 := hid (show subOf (-1) (.mk 1 []) t4a = true from sub_unk3 t4a EQ17.out)
          have EQ66 := hid (show tyEq (.mk 1 []) t4a = false from (by rw [← sub_unk1 t4a EQ17.out]; exact EQ44.out))
          go_wp2_with fail
          refine wp_region_held_drew (S := (fun w' => Below (z36).heap.size (z36) w' ∧ w'.cell? ⟨z4.heap.size, 0, none⟩ = some (.int .i64 k4a) ∧ w'.cell? ⟨z4.heap.size, 1, none⟩ = some (.slice a4a n4a c4a) ∧ w'.cell? ⟨z4.heap.size + 1, 0, none⟩ = some (.int .i64 k4b) ∧ w'.cell? ⟨z4.heap.size + 1, 1, none⟩ = some (.slice a4b n4b c4b) ∧ w'.cell? ⟨z10.heap.size, 0, none⟩ = some (.int .i64 1) ∧ w'.cell? ⟨z10.heap.size, 1, none⟩ = some (.slice none 0 0))) (by kernel_rfl) ?_ (fun hS0 => ?_)
          · (refine (fun hB => ⟨hB, cell_keep xa1_ hB, cell_keep xb1_ hB, cell_keep xa2_ hB, cell_keep xb2_ hB, cell_keep xa3_ hB, cell_keep xb3_ hB⟩ : Below (z36).heap.size (z36) _ → _) ?_; exact below_drew _)
          refine regTake (i := 0) (v := ?vg57_0) rfl (by kernel_rfl) (by kernel_rfl) (by kernel_rfl) (fun _ _ _ h => h) (Or.inl ⟨by rfl, ?hyg57_0⟩) (by assumption) ?_
          case hyg57_0 => (intro w hSw; (try dsimp only at hSw); go_simp; (try with_reducible rfl))
          try simp only [Act.put, List.setIfInBounds_toArray, List.set_cons_zero, List.set_cons_succ]
          refine regTake (i := 1) (v := ?vg57_1) rfl (by kernel_rfl) (by kernel_rfl) (by kernel_rfl) (fun _ _ _ h => h) (Or.inl ⟨by rfl, ?hyg57_1⟩) (by assumption) ?_
          case hyg57_1 => (intro w hSw; (try dsimp only at hSw); go_simp; (try with_reducible rfl))
          try simp only [Act.put, List.setIfInBounds_toArray, List.set_cons_zero, List.set_cons_succ]
          refine wpAnyH_ready (rs := [2]) (by kernel_rfl) (by simp) ?_
          refine regCons rfl (fun K hK => ?_)
          go_simp
          have hc59 := implSubPositive t4a (.mk 1 []) _ _ _ _ _ (HA4a.out.below (below_trans hq36 (below_drew (z36)))) (HAL12.out.below (below_trans hq36 (below_drew (z36))))
          rw [EQ58.out] at hc59
          refine hc59.mono ?_
          rintro e yg57_0 ⟨rfl, hyg57_0⟩
          have hkg57_0 := below_trans (below_drew (z36)) hyg57_0
          clear hc59
          refine hK.out _ _ ?_ (fun hS1 => ?_)
          · (refine (fun hB => ⟨hB, cell_keep xa1_ hB, cell_keep xb1_ hB, cell_keep xa2_ hB, cell_keep xb2_ hB, cell_keep xa3_ hB, cell_keep xb3_ hB⟩ : Below (z36).heap.size (z36) _ → _) ?_; exact hkg57_0)
          clear hK K hS0
          try simp only [Act.put, List.setIfInBounds_toArray, List.set_cons_zero, List.set_cons_succ]
          refine regTake (i := 3) (v := ?vg57_3) rfl (by kernel_rfl) (by kernel_rfl) (by kernel_rfl) (fun _ _ _ h => h) (Or.inl ⟨by rfl, ?hyg57_3⟩) (by assumption) ?_
          case hyg57_3 => (intro w hSw; (try dsimp only at hSw); go_simp; (try with_reducible rfl))
          try simp only [Act.put, List.setIfInBounds_toArray, List.set_cons_zero, List.set_cons_succ]
          refine regTake (i := 4) (v := ?vg57_4) rfl (by kernel_rfl) (by kernel_rfl) (by kernel_rfl) (fun _ _ _ h => h) (Or.inl ⟨by rfl, ?hyg57_4⟩) (by assumption) ?_
          case hyg57_4 => (intro w hSw; (try dsimp only at hSw); go_simp; (try with_reducible rfl))
          try simp only [Act.put, List.setIfInBounds_toArray, List.set_cons_zero, List.set_cons_succ]
          refine regTake (i := 5) (v := ?vg57_5) rfl (by kernel_rfl) (by kernel_rfl) (by kernel_rfl) (fun _ _ _ h => h) (Or.inl ⟨by rfl, ?hyg57_5⟩) (by assumption) ?_
          case hyg57_5 => (intro w hSw; (try dsimp only at hSw); go_simp; (try with_reducible rfl))
          try simp only [Act.put, List.setIfInBounds_toArray, List.set_cons_zero, List.set_cons_succ]
          refine wpAnyH_ready (rs := [6]) (by kernel_rfl) (by simp) ?_
          refine regCons rfl (fun K hK => ?_)
          go_simp
          have hc62 := implSubNegative (.mk 1 []) t4a _ _ _ _ _ (HAL12.out.below (below_trans hq36 (hkg57_0))) (HA4a.out.below (below_trans hq36 (hkg57_0)))
          rw [EQ61.out] at hc62
          refine hc62.mono ?_
          rintro e yg57_1 ⟨rfl, hyg57_1⟩
          have hkg57_1 := below_trans (hkg57_0) hyg57_1
          clear hc62
          refine hK.out _ _ ?_ (fun hS2 => ?_)
          · (refine (fun hB => ⟨hB, cell_keep xa1_ hB, cell_keep xb1_ hB, cell_keep xa2_ hB, cell_keep xb2_ hB, cell_keep xa3_ hB, cell_keep xb3_ hB⟩ : Below (z36).heap.size (z36) _ → _) ?_; exact hkg57_1)
          clear hK K hS1
          try simp only [Act.put, List.setIfInBounds_toArray, List.set_cons_zero, List.set_cons_succ]
          refine regTake (i := 7) (v := .bool true) rfl (by kernel_rfl) (by kernel_rfl) (by kernel_rfl) (fun _ _ _ h => h) (Or.inl ⟨by rfl, ?hyg57_7⟩) (by assumption) ?_
          case hyg57_7 => (intro w hSw; (try dsimp only at hSw); go_simp; (try with_reducible rfl))
          try simp only [Act.put, List.setIfInBounds_toArray, List.set_cons_zero, List.set_cons_succ]
          refine regTake (i := 8) (v := ?vg57_8) rfl (by kernel_rfl) (by kernel_rfl) (by kernel_rfl) (fun _ _ _ h => h) (Or.inl ⟨by rfl, ?hyg57_8⟩) (by assumption) ?_
          case hyg57_8 => (intro w hSw; (try dsimp only at hSw); go_simp; (try with_reducible rfl))
          try simp only [Act.put, List.setIfInBounds_toArray, List.set_cons_zero, List.set_cons_succ]
          refine regTake (i := 9) (v := ?vg57_9) rfl (by kernel_rfl) (by kernel_rfl) (by kernel_rfl) (fun _ _ _ h => h) (Or.inl ⟨by rfl, ?hyg57_9⟩) (by assumption) ?_
          case hyg57_9 => (intro w hSw; (try dsimp only at hSw); go_simp; (try with_reducible rfl))
          try simp only [Act.put, List.setIfInBounds_toArray, List.set_cons_zero, List.set_cons_succ]
          refine regTake (i := 10) (v := ?vg57_10) rfl (by kernel_rfl) (by kernel_rfl) (by kernel_rfl) (fun _ _ _ h => h) (Or.inl ⟨by rfl, ?hyg57_10⟩) (by assumption) ?_
          case hyg57_10 => (intro w hSw; (try dsimp only at hSw); go_simp; (try with_reducible rfl))
          try simp only [Act.put, List.setIfInBounds_toArray, List.set_cons_zero, List.set_cons_succ]
          refine regTake (i := 12) (v := ?vg57_12) rfl (by kernel_rfl) (by kernel_rfl) (by kernel_rfl) (fun _ _ _ h => h) (Or.inl ⟨by rfl, ?hyg57_12⟩) (by assumption) ?_
          case hyg57_12 => (intro w hSw; (try dsimp only at hSw); go_simp; (try with_reducible rfl))
          try simp only [Act.put, List.setIfInBounds_toArray, List.set_cons_zero, List.set_cons_succ]
          refine regTake (i := 13) (v := ?vg57_13) rfl (by kernel_rfl) (by kernel_rfl) (by kernel_rfl) (fun _ _ _ h => h) (Or.inl ⟨by rfl, ?hyg57_13⟩) (by assumption) ?_
          case hyg57_13 => (intro w hSw; (try dsimp only at hSw); go_simp; (try with_reducible rfl))
          try simp only [Act.put, List.setIfInBounds_toArray, List.set_cons_zero, List.set_cons_succ]
          refine wpAnyH_ready (rs := [11]) (by kernel_rfl) (by simp) ?_
          refine regCons rfl (fun K hK => ?_)
          go_simp
          have hc64 := implSubPositive (.mk 1 []) t4a _ _ _ _ _ (HAL12.out.below (below_trans hq36 (hkg57_1))) (HA4a.out.below (below_trans hq36 (hkg57_1)))
          rw [EQ44.out] at hc64
          refine hc64.mono ?_
          rintro e yg57_2 ⟨rfl, hyg57_2⟩
          have hkg57_2 := below_trans (hkg57_1) hyg57_2
          clear hc64
          refine hK.out _ _ ?_ (fun hS3 => ?_)
          · (refine (fun hB => ⟨hB, cell_keep xa1_ hB, cell_keep xb1_ hB, cell_keep xa2_ hB, cell_keep xb2_ hB, cell_keep xa3_ hB, cell_keep xb3_ hB⟩ : Below (z36).heap.size (z36) _ → _) ?_; exact hkg57_2)
          clear hK K hS2
          try simp only [Act.put, List.setIfInBounds_toArray, List.set_cons_zero, List.set_cons_succ]
          refine wpAnyH_ready (rs := [14]) (by kernel_rfl) (by simp) ?_
          refine regCons rfl (fun K hK => ?_)
          go_simp
          have hc67 := implTypeSame (.mk 1 []) t4a _ _ _ _ _ (by have := HCL12.out; omega) (HAL12.out.below (below_trans hq36 (hkg57_2))) (HA4a.out.below (below_trans hq36 (hkg57_2))) (fun x hx => (HRL12.out x hx).below (below_trans hq36 (hkg57_2))) (fun x hx => (HR4a.out x hx).below (below_trans hq36 (hkg57_2)))
          rw [EQ66.out] at hc67
          refine hc67.mono ?_
          rintro e yg57_3 ⟨rfl, hyg57_3⟩
          have hkg57_3 := below_trans (hkg57_2) hyg57_3
          clear hc67
          refine hK.out _ _ ?_ (fun hS4 => ?_)
          · (refine (fun hB => ⟨hB, cell_keep xa1_ hB, cell_keep xb1_ hB, cell_keep xa2_ hB, cell_keep xb2_ hB, cell_keep xa3_ hB, cell_keep xb3_ hB⟩ : Below (z36).heap.size (z36) _ → _) ?_; exact hkg57_3)
          clear hK K hS3
          try simp only [Act.put, List.setIfInBounds_toArray, List.set_cons_zero, List.set_cons_succ]
          refine regTake (i := 15) (v := ?vg57_15) rfl (by kernel_rfl) (by kernel_rfl) (by kernel_rfl) (fun _ _ _ h => h) (Or.inl ⟨by rfl, ?hyg57_15⟩) (by assumption) ?_
          case hyg57_15 => (intro w hSw; (try dsimp only at hSw); go_simp; (try with_reducible rfl))
          try simp only [Act.put, List.setIfInBounds_toArray, List.set_cons_zero, List.set_cons_succ]
          refine regTake (i := 16) (v := .bool true) rfl (by kernel_rfl) (by kernel_rfl) (by kernel_rfl) (fun _ _ _ h => h) (Or.inl ⟨by rfl, ?hyg57_16⟩) (by assumption) ?_
          case hyg57_16 => (intro w hSw; (try dsimp only at hSw); go_simp; (try with_reducible rfl))
          try simp only [Act.put, List.setIfInBounds_toArray, List.set_cons_zero, List.set_cons_succ]
          refine regTake (i := 17) (v := ?vg57_17) rfl (by kernel_rfl) (by kernel_rfl) (by kernel_rfl) (fun _ _ _ h => h) (Or.inl ⟨by rfl, ?hyg57_17⟩) (by assumption) ?_
          case hyg57_17 => (intro w hSw; (try dsimp only at hSw); go_simp; (try with_reducible rfl))
          try simp only [Act.put, List.setIfInBounds_toArray, List.set_cons_zero, List.set_cons_succ]
          refine wpAnyH_done (by kernel_rfl) ?_ _
          have hlg57_ := below_trans hq36 hkg57_3
          replace xa1_ := cell_keep xa1_ hkg57_3
          replace xb1_ := cell_keep xb1_ hkg57_3
          replace xa2_ := cell_keep xa2_ hkg57_3
          replace xb2_ := cell_keep xb2_ hkg57_3
          replace xa3_ := cell_keep xa3_ hkg57_3
          replace xb3_ := cell_keep xb3_ hkg57_3
          go_wp2_with fail
          go_ret
          exact ⟨rfl, below_trans HBL.out hlg57_⟩
      · have EQ28 := hid hq28
        clear hq28
        go_wp2_with fail
        have hc70 := implIsStatic t4a _ _ _ (HA4a.out.below hq22) (by have := cnt_shp4 (t := t4a) EQ17.out; omega)
        rw [EQ24.out] at hc70
        refine hc70.mono ?_
        rintro e z71 ⟨rfl, hz71⟩
        have hq71 := below_trans hq22 hz71
        replace xa1_ := cell_keep xa1_ hz71
        replace xb1_ := cell_keep xb1_ hz71
        replace xa2_ := cell_keep xa2_ hz71
        replace xb2_ := cell_keep xb2_ hz71
        replace xa3_ := cell_keep xa3_ hz71
        replace xb3_ := cell_keep xb3_ hz71
        clear hc70 hz71
        go_wp2_with fail
        have hc72 := implIsStatic t4b _ _ _ (HA4b.out.below hq71) (by have := cnt_shp4 (t := t4b) EQ20.out; omega)
        rw [EQ28.out] at hc72
        refine hc72.mono ?_
        rintro e z73 ⟨rfl, hz73⟩
        have hq73 := below_trans hq71 hz73
        replace xa1_ := cell_keep xa1_ hz73
        replace xb1_ := cell_keep xb1_ hz73
        replace xa2_ := cell_keep xa2_ hz73
        replace xb2_ := cell_keep xb2_ hz73
        replace xa3_ := cell_keep xa3_ hz73
        replace xb3_ := cell_keep xb3_ hz73
        clear hc72 hz73
        rcases Bool.eq_false_or_eq_true (subOf 1 (.mk 1 []) t4a) with hq81 | hq81
        · have EQ81 := hid hq81
          clear hq81
          have EQ83 := hid (show subOf 1 t4a (.mk 1 []) = true from sub_unk2 t4a EQ17.out)
          have EQ86 := hid (show subOf (-1) (.mk 1 []) t4a = true from sub_unk3 t4a EQ17.out)
          have EQ91 := hid (show tyEq (.mk 1 []) t4a = true from (by rw [← sub_unk1 t4a EQ17.out]; exact EQ81.out))
          go_wp2_with fail
          refine wp_region_held_drew (S := (fun w' => Below (z73).heap.size (z73) w' ∧ w'.cell? ⟨z4.heap.size, 0, none⟩ = some (.int .i64 k4a) ∧ w'.cell? ⟨z4.heap.size, 1, none⟩ = some (.slice a4a n4a c4a) ∧ w'.cell? ⟨z4.heap.size + 1, 0, none⟩ = some (.int .i64 k4b) ∧ w'.cell? ⟨z4.heap.size + 1, 1, none⟩ = some (.slice a4b n4b c4b) ∧ w'.cell? ⟨z10.heap.size, 0, none⟩ = some (.int .i64 1) ∧ w'.cell? ⟨z10.heap.size, 1, none⟩ = some (.slice none 0 0))) (by kernel_rfl) ?_ (fun hS0 => ?_)
          · (refine (fun hB => ⟨hB, cell_keep xa1_ hB, cell_keep xb1_ hB, cell_keep xa2_ hB, cell_keep xb2_ hB, cell_keep xa3_ hB, cell_keep xb3_ hB⟩ : Below (z73).heap.size (z73) _ → _) ?_; exact below_drew _)
          refine regTake (i := 0) (v := ?vg82_0) rfl (by kernel_rfl) (by kernel_rfl) (by kernel_rfl) (fun _ _ _ h => h) (Or.inl ⟨by rfl, ?hyg82_0⟩) (by assumption) ?_
          case hyg82_0 => (intro w hSw; (try dsimp only at hSw); go_simp; (try with_reducible rfl))
          try simp only [Act.put, List.setIfInBounds_toArray, List.set_cons_zero, List.set_cons_succ]
          refine regTake (i := 1) (v := ?vg82_1) rfl (by kernel_rfl) (by kernel_rfl) (by kernel_rfl) (fun _ _ _ h => h) (Or.inl ⟨by rfl, ?hyg82_1⟩) (by assumption) ?_
          case hyg82_1 => (intro w hSw; (try dsimp only at hSw); go_simp; (try with_reducible rfl))
          try simp only [Act.put, List.setIfInBounds_toArray, List.set_cons_zero, List.set_cons_succ]
          refine wpAnyH_ready (rs := [2]) (by kernel_rfl) (by simp) ?_
          refine regCons rfl (fun K hK => ?_)
          go_simp
          have hc84 := implSubPositive t4a (.mk 1 []) _ _ _ _ _ (HA4a.out.below (below_trans hq73 (below_drew (z73)))) (HAL12.out.below (below_trans hq73 (below_drew (z73))))
          rw [EQ83.out] at hc84
          refine hc84.mono ?_
          rintro e yg82_0 ⟨rfl, hyg82_0⟩
          have hkg82_0 := below_trans (below_drew (z73)) hyg82_0
          clear hc84
          refine hK.out _ _ ?_ (fun hS1 => ?_)
          · (refine (fun hB => ⟨hB, cell_keep xa1_ hB, cell_keep xb1_ hB, cell_keep xa2_ hB, cell_keep xb2_ hB, cell_keep xa3_ hB, cell_keep xb3_ hB⟩ : Below (z73).heap.size (z73) _ → _) ?_; exact hkg82_0)
          clear hK K hS0
          try simp only [Act.put, List.setIfInBounds_toArray, List.set_cons_zero, List.set_cons_succ]
          refine regTake (i := 3) (v := ?vg82_3) rfl (by kernel_rfl) (by kernel_rfl) (by kernel_rfl) (fun _ _ _ h => h) (Or.inl ⟨by rfl, ?hyg82_3⟩) (by assumption) ?_
          case hyg82_3 => (intro w hSw; (try dsimp only at hSw); go_simp; (try with_reducible rfl))
          try simp only [Act.put, List.setIfInBounds_toArray, List.set_cons_zero, List.set_cons_succ]
          refine regTake (i := 4) (v := ?vg82_4) rfl (by kernel_rfl) (by kernel_rfl) (by kernel_rfl) (fun _ _ _ h => h) (Or.inl ⟨by rfl, ?hyg82_4⟩) (by assumption) ?_
          case hyg82_4 => (intro w hSw; (try dsimp only at hSw); go_simp; (try with_reducible rfl))
          try simp only [Act.put, List.setIfInBounds_toArray, List.set_cons_zero, List.set_cons_succ]
          refine regTake (i := 5) (v := ?vg82_5) rfl (by kernel_rfl) (by kernel_rfl) (by kernel_rfl) (fun _ _ _ h => h) (Or.inl ⟨by rfl, ?hyg82_5⟩) (by assumption) ?_
          case hyg82_5 => (intro w hSw; (try dsimp only at hSw); go_simp; (try with_reducible rfl))
          try simp only [Act.put, List.setIfInBounds_toArray, List.set_cons_zero, List.set_cons_succ]
          refine wpAnyH_ready (rs := [6]) (by kernel_rfl) (by simp) ?_
          refine regCons rfl (fun K hK => ?_)
          go_simp
          have hc87 := implSubNegative (.mk 1 []) t4a _ _ _ _ _ (HAL12.out.below (below_trans hq73 (hkg82_0))) (HA4a.out.below (below_trans hq73 (hkg82_0)))
          rw [EQ86.out] at hc87
          refine hc87.mono ?_
          rintro e yg82_1 ⟨rfl, hyg82_1⟩
          have hkg82_1 := below_trans (hkg82_0) hyg82_1
          clear hc87
          refine hK.out _ _ ?_ (fun hS2 => ?_)
          · (refine (fun hB => ⟨hB, cell_keep xa1_ hB, cell_keep xb1_ hB, cell_keep xa2_ hB, cell_keep xb2_ hB, cell_keep xa3_ hB, cell_keep xb3_ hB⟩ : Below (z73).heap.size (z73) _ → _) ?_; exact hkg82_1)
          clear hK K hS1
          try simp only [Act.put, List.setIfInBounds_toArray, List.set_cons_zero, List.set_cons_succ]
          refine regTake (i := 7) (v := .bool true) rfl (by kernel_rfl) (by kernel_rfl) (by kernel_rfl) (fun _ _ _ h => h) (Or.inl ⟨by rfl, ?hyg82_7⟩) (by assumption) ?_
          case hyg82_7 => (intro w hSw; (try dsimp only at hSw); go_simp; (try with_reducible rfl))
          try simp only [Act.put, List.setIfInBounds_toArray, List.set_cons_zero, List.set_cons_succ]
          refine regTake (i := 8) (v := ?vg82_8) rfl (by kernel_rfl) (by kernel_rfl) (by kernel_rfl) (fun _ _ _ h => h) (Or.inl ⟨by rfl, ?hyg82_8⟩) (by assumption) ?_
          case hyg82_8 => (intro w hSw; (try dsimp only at hSw); go_simp; (try with_reducible rfl))
          try simp only [Act.put, List.setIfInBounds_toArray, List.set_cons_zero, List.set_cons_succ]
          refine regTake (i := 9) (v := ?vg82_9) rfl (by kernel_rfl) (by kernel_rfl) (by kernel_rfl) (fun _ _ _ h => h) (Or.inl ⟨by rfl, ?hyg82_9⟩) (by assumption) ?_
          case hyg82_9 => (intro w hSw; (try dsimp only at hSw); go_simp; (try with_reducible rfl))
          try simp only [Act.put, List.setIfInBounds_toArray, List.set_cons_zero, List.set_cons_succ]
          refine regTake (i := 10) (v := ?vg82_10) rfl (by kernel_rfl) (by kernel_rfl) (by kernel_rfl) (fun _ _ _ h => h) (Or.inl ⟨by rfl, ?hyg82_10⟩) (by assumption) ?_
          case hyg82_10 => (intro w hSw; (try dsimp only at hSw); go_simp; (try with_reducible rfl))
          try simp only [Act.put, List.setIfInBounds_toArray, List.set_cons_zero, List.set_cons_succ]
          refine regTake (i := 12) (v := ?vg82_12) rfl (by kernel_rfl) (by kernel_rfl) (by kernel_rfl) (fun _ _ _ h => h) (Or.inl ⟨by rfl, ?hyg82_12⟩) (by assumption) ?_
          case hyg82_12 => (intro w hSw; (try dsimp only at hSw); go_simp; (try with_reducible rfl))
          try simp only [Act.put, List.setIfInBounds_toArray, List.set_cons_zero, List.set_cons_succ]
          refine regTake (i := 13) (v := ?vg82_13) rfl (by kernel_rfl) (by kernel_rfl) (by kernel_rfl) (fun _ _ _ h => h) (Or.inl ⟨by rfl, ?hyg82_13⟩) (by assumption) ?_
          case hyg82_13 => (intro w hSw; (try dsimp only at hSw); go_simp; (try with_reducible rfl))
          try simp only [Act.put, List.setIfInBounds_toArray, List.set_cons_zero, List.set_cons_succ]
          refine wpAnyH_ready (rs := [11]) (by kernel_rfl) (by simp) ?_
          refine regCons rfl (fun K hK => ?_)
          go_simp
          have hc89 := implSubPositive (.mk 1 []) t4a _ _ _ _ _ (HAL12.out.below (below_trans hq73 (hkg82_1))) (HA4a.out.below (below_trans hq73 (hkg82_1)))
          rw [EQ81.out] at hc89
          refine hc89.mono ?_
          rintro e yg82_2 ⟨rfl, hyg82_2⟩
          have hkg82_2 := below_trans (hkg82_1) hyg82_2
          clear hc89
          refine hK.out _ _ ?_ (fun hS3 => ?_)
          · (refine (fun hB => ⟨hB, cell_keep xa1_ hB, cell_keep xb1_ hB, cell_keep xa2_ hB, cell_keep xb2_ hB, cell_keep xa3_ hB, cell_keep xb3_ hB⟩ : Below (z73).heap.size (z73) _ → _) ?_; exact hkg82_2)
          clear hK K hS2
          try simp only [Act.put, List.setIfInBounds_toArray, List.set_cons_zero, List.set_cons_succ]
          refine wpAnyH_ready (rs := [14]) (by kernel_rfl) (by simp) ?_
          refine regCons rfl (fun K hK => ?_)
          go_simp
          have hc92 := implTypeSame (.mk 1 []) t4a _ _ _ _ _ (by have := HCL12.out; omega) (HAL12.out.below (below_trans hq73 (hkg82_2))) (HA4a.out.below (below_trans hq73 (hkg82_2))) (fun x hx => (HRL12.out x hx).below (below_trans hq73 (hkg82_2))) (fun x hx => (HR4a.out x hx).below (below_trans hq73 (hkg82_2)))
          rw [EQ91.out] at hc92
          refine hc92.mono ?_
          rintro e yg82_3 ⟨rfl, hyg82_3⟩
          have hkg82_3 := below_trans (hkg82_2) hyg82_3
          clear hc92
          refine hK.out _ _ ?_ (fun hS4 => ?_)
          · (refine (fun hB => ⟨hB, cell_keep xa1_ hB, cell_keep xb1_ hB, cell_keep xa2_ hB, cell_keep xb2_ hB, cell_keep xa3_ hB, cell_keep xb3_ hB⟩ : Below (z73).heap.size (z73) _ → _) ?_; exact hkg82_3)
          clear hK K hS3
          try simp only [Act.put, List.setIfInBounds_toArray, List.set_cons_zero, List.set_cons_succ]
          refine regTake (i := 15) (v := ?vg82_15) rfl (by kernel_rfl) (by kernel_rfl) (by kernel_rfl) (fun _ _ _ h => h) (Or.inl ⟨by rfl, ?hyg82_15⟩) (by assumption) ?_
          case hyg82_15 => (intro w hSw; (try dsimp only at hSw); go_simp; (try with_reducible rfl))
          try simp only [Act.put, List.setIfInBounds_toArray, List.set_cons_zero, List.set_cons_succ]
          refine regTake (i := 16) (v := .bool true) rfl (by kernel_rfl) (by kernel_rfl) (by kernel_rfl) (fun _ _ _ h => h) (Or.inl ⟨by rfl, ?hyg82_16⟩) (by assumption) ?_
          case hyg82_16 => (intro w hSw; (try dsimp only at hSw); go_simp; (try with_reducible rfl))
          try simp only [Act.put, List.setIfInBounds_toArray, List.set_cons_zero, List.set_cons_succ]
          refine regTake (i := 17) (v := ?vg82_17) rfl (by kernel_rfl) (by kernel_rfl) (by kernel_rfl) (fun _ _ _ h => h) (Or.inl ⟨by rfl, ?hyg82_17⟩) (by assumption) ?_
          case hyg82_17 => (intro w hSw; (try dsimp only at hSw); go_simp; (try with_reducible rfl))
          try simp only [Act.put, List.setIfInBounds_toArray, List.set_cons_zero, List.set_cons_succ]
          refine wpAnyH_done (by kernel_rfl) ?_ _
          have hlg82_ := below_trans hq73 hkg82_3
          replace xa1_ := cell_keep xa1_ hkg82_3
          replace xb1_ := cell_keep xb1_ hkg82_3
          replace xa2_ := cell_keep xa2_ hkg82_3
          replace xb2_ := cell_keep xb2_ hkg82_3
          replace xa3_ := cell_keep xa3_ hkg82_3
          replace xb3_ := cell_keep xb3_ hkg82_3
          go_wp2_with fail
          go_ret
          exact ⟨rfl, below_trans HBL.out hlg82_⟩
        · have EQ81 := hid hq81
          clear hq81
          have EQ95 := hid (show subOf 1 t4a (.mk 1 []) = true from sub_unk2 t4a EQ17.out)
          have EQ98 := hid (show subOf (-1) (.mk 1 []) t4a = true from sub_unk3 t4a EQ17.out)
          have EQ103 := hid (show tyEq (.mk 1 []) t4a = false from (by rw [← sub_unk1 t4a EQ17.out]; exact EQ81.out))
          go_wp2_with fail
          refine wp_region_held_drew (S := (fun w' => Below (z73).heap.size (z73) w' ∧ w'.cell? ⟨z4.heap.size, 0, none⟩ = some (.int .i64 k4a) ∧ w'.cell? ⟨z4.heap.size, 1, none⟩ = some (.slice a4a n4a c4a) ∧ w'.cell? ⟨z4.heap.size + 1, 0, none⟩ = some (.int .i64 k4b) ∧ w'.cell? ⟨z4.heap.size + 1, 1, none⟩ = some (.slice a4b n4b c4b) ∧ w'.cell? ⟨z10.heap.size, 0, none⟩ = some (.int .i64 1) ∧ w'.cell? ⟨z10.heap.size, 1, none⟩ = some (.slice none 0 0))) (by kernel_rfl) ?_ (fun hS0 => ?_)
          · (refine (fun hB => ⟨hB, cell_keep xa1_ hB, cell_keep xb1_ hB, cell_keep xa2_ hB, cell_keep xb2_ hB, cell_keep xa3_ hB, cell_keep xb3_ hB⟩ : Below (z73).heap.size (z73) _ → _) ?_; exact below_drew _)
          refine regTake (i := 0) (v := ?vg94_0) rfl (by kernel_rfl) (by kernel_rfl) (by kernel_rfl) (fun _ _ _ h => h) (Or.inl ⟨by rfl, ?hyg94_0⟩) (by assumption) ?_
          case hyg94_0 => (intro w hSw; (try dsimp only at hSw); go_simp; (try with_reducible rfl))
          try simp only [Act.put, List.setIfInBounds_toArray, List.set_cons_zero, List.set_cons_succ]
          refine regTake (i := 1) (v := ?vg94_1) rfl (by kernel_rfl) (by kernel_rfl) (by kernel_rfl) (fun _ _ _ h => h) (Or.inl ⟨by rfl, ?hyg94_1⟩) (by assumption) ?_
          case hyg94_1 => (intro w hSw; (try dsimp only at hSw); go_simp; (try with_reducible rfl))
          try simp only [Act.put, List.setIfInBounds_toArray, List.set_cons_zero, List.set_cons_succ]
          refine wpAnyH_ready (rs := [2]) (by kernel_rfl) (by simp) ?_
          refine regCons rfl (fun K hK => ?_)
          go_simp
          have hc96 := implSubPositive t4a (.mk 1 []) _ _ _ _ _ (HA4a.out.below (below_trans hq73 (below_drew (z73)))) (HAL12.out.below (below_trans hq73 (below_drew (z73))))
          rw [EQ95.out] at hc96
          refine hc96.mono ?_
          rintro e yg94_0 ⟨rfl, hyg94_0⟩
          have hkg94_0 := below_trans (below_drew (z73)) hyg94_0
          clear hc96
          refine hK.out _ _ ?_ (fun hS1 => ?_)
          · (refine (fun hB => ⟨hB, cell_keep xa1_ hB, cell_keep xb1_ hB, cell_keep xa2_ hB, cell_keep xb2_ hB, cell_keep xa3_ hB, cell_keep xb3_ hB⟩ : Below (z73).heap.size (z73) _ → _) ?_; exact hkg94_0)
          clear hK K hS0
          try simp only [Act.put, List.setIfInBounds_toArray, List.set_cons_zero, List.set_cons_succ]
          refine regTake (i := 3) (v := ?vg94_3) rfl (by kernel_rfl) (by kernel_rfl) (by kernel_rfl) (fun _ _ _ h => h) (Or.inl ⟨by rfl, ?hyg94_3⟩) (by assumption) ?_
          case hyg94_3 => (intro w hSw; (try dsimp only at hSw); go_simp; (try with_reducible rfl))
          try simp only [Act.put, List.setIfInBounds_toArray, List.set_cons_zero, List.set_cons_succ]
          refine regTake (i := 4) (v := ?vg94_4) rfl (by kernel_rfl) (by kernel_rfl) (by kernel_rfl) (fun _ _ _ h => h) (Or.inl ⟨by rfl, ?hyg94_4⟩) (by assumption) ?_
          case hyg94_4 => (intro w hSw; (try dsimp only at hSw); go_simp; (try with_reducible rfl))
          try simp only [Act.put, List.setIfInBounds_toArray, List.set_cons_zero, List.set_cons_succ]
          refine regTake (i := 5) (v := ?vg94_5) rfl (by kernel_rfl) (by kernel_rfl) (by kernel_rfl) (fun _ _ _ h => h) (Or.inl ⟨by rfl, ?hyg94_5⟩) (by assumption) ?_
          case hyg94_5 => (intro w hSw; (try dsimp only at hSw); go_simp; (try with_reducible rfl))
          try simp only [Act.put, List.setIfInBounds_toArray, List.set_cons_zero, List.set_cons_succ]
          refine wpAnyH_ready (rs := [6]) (by kernel_rfl) (by simp) ?_
          refine regCons rfl (fun K hK => ?_)
          go_simp
          have hc99 := implSubNegative (.mk 1 []) t4a _ _ _ _ _ (HAL12.out.below (below_trans hq73 (hkg94_0))) (HA4a.out.below (below_trans hq73 (hkg94_0)))
          rw [EQ98.out] at hc99
          refine hc99.mono ?_
          rintro e yg94_1 ⟨rfl, hyg94_1⟩
          have hkg94_1 := below_trans (hkg94_0) hyg94_1
          clear hc99
          refine hK.out _ _ ?_ (fun hS2 => ?_)
          · (refine (fun hB => ⟨hB, cell_keep xa1_ hB, cell_keep xb1_ hB, cell_keep xa2_ hB, cell_keep xb2_ hB, cell_keep xa3_ hB, cell_keep xb3_ hB⟩ : Below (z73).heap.size (z73) _ → _) ?_; exact hkg94_1)
          clear hK K hS1
          try simp only [Act.put, List.setIfInBounds_toArray, List.set_cons_zero, List.set_cons_succ]
          refine regTake (i := 7) (v := .bool true) rfl (by kernel_rfl) (by kernel_rfl) (by kernel_rfl) (fun _ _ _ h => h) (Or.inl ⟨by rfl, ?hyg94_7⟩) (by assumption) ?_
          case hyg94_7 => (intro w hSw; (try dsimp only at hSw); go_simp; (try with_reducible rfl))
          try simp only [Act.put, List.setIfInBounds_toArray, List.set_cons_zero, List.set_cons_succ]
          refine regTake (i := 8) (v := ?vg94_8) rfl (by kernel_rfl) (by kernel_rfl) (by kernel_rfl) (fun _ _ _ h => h) (Or.inl ⟨by rfl, ?hyg94_8⟩) (by assumption) ?_
          case hyg94_8 => (intro w hSw; (try dsimp only at hSw); go_simp; (try with_reducible rfl))
          try simp only [Act.put, List.setIfInBounds_toArray, List.set_cons_zero, List.set_cons_succ]
          refine regTake (i := 9) (v := ?vg94_9) rfl (by kernel_rfl) (by kernel_rfl) (by kernel_rfl) (fun _ _ _ h => h) (Or.inl ⟨by rfl, ?hyg94_9⟩) (by assumption) ?_
          case hyg94_9 => (intro w hSw; (try dsimp only at hSw); go_simp; (try with_reducible rfl))
          try simp only [Act.put, List.setIfInBounds_toArray, List.set_cons_zero, List.set_cons_succ]
          refine regTake (i := 10) (v := ?vg94_10) rfl (by kernel_rfl) (by kernel_rfl) (by kernel_rfl) (fun _ _ _ h => h) (Or.inl ⟨by rfl, ?hyg94_10⟩) (by assumption) ?_
          case hyg94_10 => (intro w hSw; (try dsimp only at hSw); go_simp; (try with_reducible rfl))
          try simp only [Act.put, List.setIfInBounds_toArray, List.set_cons_zero, List.set_cons_succ]
          refine regTake (i := 12) (v := ?vg94_12) rfl (by kernel_rfl) (by kernel_rfl) (by kernel_rfl) (fun _ _ _ h => h) (Or.inl ⟨by rfl, ?hyg94_12⟩) (by assumption) ?_
          case hyg94_12 => (intro w hSw; (try dsimp only at hSw); go_simp; (try with_reducible rfl))
          try simp only [Act.put, List.setIfInBounds_toArray, List.set_cons_zero, List.set_cons_succ]
          refine regTake (i := 13) (v := ?vg94_13) rfl (by kernel_rfl) (by kernel_rfl) (by kernel_rfl) (fun _ _ _ h => h) (Or.inl ⟨by rfl, ?hyg94_13⟩) (by assumption) ?_
          case hyg94_13 => (intro w hSw; (try dsimp only at hSw); go_simp; (try with_reducible rfl))
          try simp only [Act.put, List.setIfInBounds_toArray, List.set_cons_zero, List.set_cons_succ]
          refine wpAnyH_ready (rs := [11]) (by kernel_rfl) (by simp) ?_
          refine regCons rfl (fun K hK => ?_)
          go_simp
          have hc101 := implSubPositive (.mk 1 []) t4a _ _ _ _ _ (HAL12.out.below (below_trans hq73 (hkg94_1))) (HA4a.out.below (below_trans hq73 (hkg94_1)))
          rw [EQ81.out] at hc101
          refine hc101.mono ?_
          rintro e yg94_2 ⟨rfl, hyg94_2⟩
          have hkg94_2 := below_trans (hkg94_1) hyg94_2
          clear hc101
          refine hK.out _ _ ?_ (fun hS3 => ?_)
          · (refine (fun hB => ⟨hB, cell_keep xa1_ hB, cell_keep xb1_ hB, cell_keep xa2_ hB, cell_keep xb2_ hB, cell_keep xa3_ hB, cell_keep xb3_ hB⟩ : Below (z73).heap.size (z73) _ → _) ?_; exact hkg94_2)
          clear hK K hS2
          try simp only [Act.put, List.setIfInBounds_toArray, List.set_cons_zero, List.set_cons_succ]
          refine wpAnyH_ready (rs := [14]) (by kernel_rfl) (by simp) ?_
          refine regCons rfl (fun K hK => ?_)
          go_simp
          have hc104 := implTypeSame (.mk 1 []) t4a _ _ _ _ _ (by have := HCL12.out; omega) (HAL12.out.below (below_trans hq73 (hkg94_2))) (HA4a.out.below (below_trans hq73 (hkg94_2))) (fun x hx => (HRL12.out x hx).below (below_trans hq73 (hkg94_2))) (fun x hx => (HR4a.out x hx).below (below_trans hq73 (hkg94_2)))
          rw [EQ103.out] at hc104
          refine hc104.mono ?_
          rintro e yg94_3 ⟨rfl, hyg94_3⟩
          have hkg94_3 := below_trans (hkg94_2) hyg94_3
          clear hc104
          refine hK.out _ _ ?_ (fun hS4 => ?_)
          · (refine (fun hB => ⟨hB, cell_keep xa1_ hB, cell_keep xb1_ hB, cell_keep xa2_ hB, cell_keep xb2_ hB, cell_keep xa3_ hB, cell_keep xb3_ hB⟩ : Below (z73).heap.size (z73) _ → _) ?_; exact hkg94_3)
          clear hK K hS3
          try simp only [Act.put, List.setIfInBounds_toArray, List.set_cons_zero, List.set_cons_succ]
          refine regTake (i := 15) (v := ?vg94_15) rfl (by kernel_rfl) (by kernel_rfl) (by kernel_rfl) (fun _ _ _ h => h) (Or.inl ⟨by rfl, ?hyg94_15⟩) (by assumption) ?_
          case hyg94_15 => (intro w hSw; (try dsimp only at hSw); go_simp; (try with_reducible rfl))
          try simp only [Act.put, List.setIfInBounds_toArray, List.set_cons_zero, List.set_cons_succ]
          refine regTake (i := 16) (v := .bool true) rfl (by kernel_rfl) (by kernel_rfl) (by kernel_rfl) (fun _ _ _ h => h) (Or.inl ⟨by rfl, ?hyg94_16⟩) (by assumption) ?_
          case hyg94_16 => (intro w hSw; (try dsimp only at hSw); go_simp; (try with_reducible rfl))
          try simp only [Act.put, List.setIfInBounds_toArray, List.set_cons_zero, List.set_cons_succ]
          refine regTake (i := 17) (v := ?vg94_17) rfl (by kernel_rfl) (by kernel_rfl) (by kernel_rfl) (fun _ _ _ h => h) (Or.inl ⟨by rfl, ?hyg94_17⟩) (by assumption) ?_
          case hyg94_17 => (intro w hSw; (try dsimp only at hSw); go_simp; (try with_reducible rfl))
          try simp only [Act.put, List.setIfInBounds_toArray, List.set_cons_zero, List.set_cons_succ]
          refine wpAnyH_done (by kernel_rfl) ?_ _
          have hlg94_ := below_trans hq73 hkg94_3
          replace xa1_ := cell_keep xa1_ hkg94_3
          replace xb1_ := cell_keep xb1_ hkg94_3
          replace xa2_ := cell_keep xa2_ hkg94_3
          replace xb2_ := cell_keep xb2_ hkg94_3
          replace xa3_ := cell_keep xa3_ hkg94_3
          replace xb3_ := cell_keep xb3_ hkg94_3
          go_wp2_with fail
          go_ret
          exact ⟨rfl, below_trans HBL.out hlg94_⟩
    · have EQ24 := hid hq24
      clear hq24
      go_wp2_with fail
      have hc107 := implIsStatic t4a _ _ _ (HA4a.out.below hq22) (by have := cnt_shp4 (t := t4a) EQ17.out; omega)
      rw [EQ24.out] at hc107
      refine hc107.mono ?_
      rintro e z108 ⟨rfl, hz108⟩
      have hq108 := below_trans hq22 hz108
      replace xa1_ := cell_keep xa1_ hz108
      replace xb1_ := cell_keep xb1_ hz108
      replace xa2_ := cell_keep xa2_ hz108
      replace xb2_ := cell_keep xb2_ hz108
      replace xa3_ := cell_keep xa3_ hz108
      replace xb3_ := cell_keep xb3_ hz108
      clear hc107 hz108
      rcases Bool.eq_false_or_eq_true (subOf 1 (.mk 1 []) t4a) with hq116 | hq116
      · have EQ116 := hid hq116
        clear hq116
        have EQ118 := hid (show subOf 1 t4a (.mk 1 []) = true from sub_unk2 t4a EQ17.out)
        have EQ121 := hid (show subOf (-1) (.mk 1 []) t4a = true from sub_unk3 t4a EQ17.out)
        have EQ126 := hid (show tyEq (.mk 1 []) t4a = true from (by rw [← sub_unk1 t4a EQ17.out]; exact EQ116.out))
        go_wp2_with fail
        refine wp_region_held_drew (S := (fun w' => Below (z108).heap.size (z108) w' ∧ w'.cell? ⟨z4.heap.size, 0, none⟩ = some (.int .i64 k4a) ∧ w'.cell? ⟨z4.heap.size, 1, none⟩ = some (.slice a4a n4a c4a) ∧ w'.cell? ⟨z4.heap.size + 1, 0, none⟩ = some (.int .i64 k4b) ∧ w'.cell? ⟨z4.heap.size + 1, 1, none⟩ = some (.slice a4b n4b c4b) ∧ w'.cell? ⟨z10.heap.size, 0, none⟩ = some (.int .i64 1) ∧ w'.cell? ⟨z10.heap.size, 1, none⟩ = some (.slice none 0 0))) (by kernel_rfl) ?_ (fun hS0 => ?_)
        · (refine (fun hB => ⟨hB, cell_keep xa1_ hB, cell_keep xb1_ hB, cell_keep xa2_ hB, cell_keep xb2_ hB, cell_keep xa3_ hB, cell_keep xb3_ hB⟩ : Below (z108).heap.size (z108) _ → _) ?_; exact below_drew _)
        refine regTake (i := 0) (v := ?vg117_0) rfl (by kernel_rfl) (by kernel_rfl) (by kernel_rfl) (fun _ _ _ h => h) (Or.inl ⟨by rfl, ?hyg117_0⟩) (by assumption) ?_
        case hyg117_0 => (intro w hSw; (try dsimp only at hSw); go_simp; (try with_reducible rfl))
        try simp only [Act.put, List.setIfInBounds_toArray, List.set_cons_zero, List.set_cons_succ]
        refine regTake (i := 1) (v := ?vg117_1) rfl (by kernel_rfl) (by kernel_rfl) (by kernel_rfl) (fun _ _ _ h => h) (Or.inl ⟨by rfl, ?hyg117_1⟩) (by assumption) ?_
        case hyg117_1 => (intro w hSw; (try dsimp only at hSw); go_simp; (try with_reducible rfl))
        try simp only [Act.put, List.setIfInBounds_toArray, List.set_cons_zero, List.set_cons_succ]
        refine wpAnyH_ready (rs := [2]) (by kernel_rfl) (by simp) ?_
        refine regCons rfl (fun K hK => ?_)
        go_simp
        have hc119 := implSubPositive t4a (.mk 1 []) _ _ _ _ _ (HA4a.out.below (below_trans hq108 (below_drew (z108)))) (HAL12.out.below (below_trans hq108 (below_drew (z108))))
        rw [EQ118.out] at hc119
        refine hc119.mono ?_
        rintro e yg117_0 ⟨rfl, hyg117_0⟩
        have hkg117_0 := below_trans (below_drew (z108)) hyg117_0
        clear hc119
        refine hK.out _ _ ?_ (fun hS1 => ?_)
        · (refine (fun hB => ⟨hB, cell_keep xa1_ hB, cell_keep xb1_ hB, cell_keep xa2_ hB, cell_keep xb2_ hB, cell_keep xa3_ hB, cell_keep xb3_ hB⟩ : Below (z108).heap.size (z108) _ → _) ?_; exact hkg117_0)
        clear hK K hS0
        try simp only [Act.put, List.setIfInBounds_toArray, List.set_cons_zero, List.set_cons_succ]
        refine regTake (i := 3) (v := ?vg117_3) rfl (by kernel_rfl) (by kernel_rfl) (by kernel_rfl) (fun _ _ _ h => h) (Or.inl ⟨by rfl, ?hyg117_3⟩) (by assumption) ?_
        case hyg117_3 => (intro w hSw; (try dsimp only at hSw); go_simp; (try with_reducible rfl))
        try simp only [Act.put, List.setIfInBounds_toArray, List.set_cons_zero, List.set_cons_succ]
        refine regTake (i := 4) (v := ?vg117_4) rfl (by kernel_rfl) (by kernel_rfl) (by kernel_rfl) (fun _ _ _ h => h) (Or.inl ⟨by rfl, ?hyg117_4⟩) (by assumption) ?_
        case hyg117_4 => (intro w hSw; (try dsimp only at hSw); go_simp; (try with_reducible rfl))
        try simp only [Act.put, List.setIfInBounds_toArray, List.set_cons_zero, List.set_cons_succ]
        refine regTake (i := 5) (v := ?vg117_5) rfl (by kernel_rfl) (by kernel_rfl) (by kernel_rfl) (fun _ _ _ h => h) (Or.inl ⟨by rfl, ?hyg117_5⟩) (by assumption) ?_
        case hyg117_5 => (intro w hSw; (try dsimp only at hSw); go_simp; (try with_reducible rfl))
        try simp only [Act.put, List.setIfInBounds_toArray, List.set_cons_zero, List.set_cons_succ]
        refine wpAnyH_ready (rs := [6]) (by kernel_rfl) (by simp) ?_
        refine regCons rfl (fun K hK => ?_)
        go_simp
        have hc122 := implSubNegative (.mk 1 []) t4a _ _ _ _ _ (HAL12.out.below (below_trans hq108 (hkg117_0))) (HA4a.out.below (below_trans hq108 (hkg117_0)))
        rw [EQ121.out] at hc122
        refine hc122.mono ?_
        rintro e yg117_1 ⟨rfl, hyg117_1⟩
        have hkg117_1 := below_trans (hkg117_0) hyg117_1
        clear hc122
        refine hK.out _ _ ?_ (fun hS2 => ?_)
        · (refine (fun hB => ⟨hB, cell_keep xa1_ hB, cell_keep xb1_ hB, cell_keep xa2_ hB, cell_keep xb2_ hB, cell_keep xa3_ hB, cell_keep xb3_ hB⟩ : Below (z108).heap.size (z108) _ → _) ?_; exact hkg117_1)
        clear hK K hS1
        try simp only [Act.put, List.setIfInBounds_toArray, List.set_cons_zero, List.set_cons_succ]
        refine regTake (i := 7) (v := .bool true) rfl (by kernel_rfl) (by kernel_rfl) (by kernel_rfl) (fun _ _ _ h => h) (Or.inl ⟨by rfl, ?hyg117_7⟩) (by assumption) ?_
        case hyg117_7 => (intro w hSw; (try dsimp only at hSw); go_simp; (try with_reducible rfl))
        try simp only [Act.put, List.setIfInBounds_toArray, List.set_cons_zero, List.set_cons_succ]
        refine regTake (i := 8) (v := ?vg117_8) rfl (by kernel_rfl) (by kernel_rfl) (by kernel_rfl) (fun _ _ _ h => h) (Or.inl ⟨by rfl, ?hyg117_8⟩) (by assumption) ?_
        case hyg117_8 => (intro w hSw; (try dsimp only at hSw); go_simp; (try with_reducible rfl))
        try simp only [Act.put, List.setIfInBounds_toArray, List.set_cons_zero, List.set_cons_succ]
        refine regTake (i := 9) (v := ?vg117_9) rfl (by kernel_rfl) (by kernel_rfl) (by kernel_rfl) (fun _ _ _ h => h) (Or.inl ⟨by rfl, ?hyg117_9⟩) (by assumption) ?_
        case hyg117_9 => (intro w hSw; (try dsimp only at hSw); go_simp; (try with_reducible rfl))
        try simp only [Act.put, List.setIfInBounds_toArray, List.set_cons_zero, List.set_cons_succ]
        refine regTake (i := 10) (v := ?vg117_10) rfl (by kernel_rfl) (by kernel_rfl) (by kernel_rfl) (fun _ _ _ h => h) (Or.inl ⟨by rfl, ?hyg117_10⟩) (by assumption) ?_
        case hyg117_10 => (intro w hSw; (try dsimp only at hSw); go_simp; (try with_reducible rfl))
        try simp only [Act.put, List.setIfInBounds_toArray, List.set_cons_zero, List.set_cons_succ]
        refine regTake (i := 12) (v := ?vg117_12) rfl (by kernel_rfl) (by kernel_rfl) (by kernel_rfl) (fun _ _ _ h => h) (Or.inl ⟨by rfl, ?hyg117_12⟩) (by assumption) ?_
        case hyg117_12 => (intro w hSw; (try dsimp only at hSw); go_simp; (try with_reducible rfl))
        try simp only [Act.put, List.setIfInBounds_toArray, List.set_cons_zero, List.set_cons_succ]
        refine regTake (i := 13) (v := ?vg117_13) rfl (by kernel_rfl) (by kernel_rfl) (by kernel_rfl) (fun _ _ _ h => h) (Or.inl ⟨by rfl, ?hyg117_13⟩) (by assumption) ?_
        case hyg117_13 => (intro w hSw; (try dsimp only at hSw); go_simp; (try with_reducible rfl))
        try simp only [Act.put, List.setIfInBounds_toArray, List.set_cons_zero, List.set_cons_succ]
        refine wpAnyH_ready (rs := [11]) (by kernel_rfl) (by simp) ?_
        refine regCons rfl (fun K hK => ?_)
        go_simp
        have hc124 := implSubPositive (.mk 1 []) t4a _ _ _ _ _ (HAL12.out.below (below_trans hq108 (hkg117_1))) (HA4a.out.below (below_trans hq108 (hkg117_1)))
        rw [EQ116.out] at hc124
        refine hc124.mono ?_
        rintro e yg117_2 ⟨rfl, hyg117_2⟩
        have hkg117_2 := below_trans (hkg117_1) hyg117_2
        clear hc124
        refine hK.out _ _ ?_ (fun hS3 => ?_)
        · (refine (fun hB => ⟨hB, cell_keep xa1_ hB, cell_keep xb1_ hB, cell_keep xa2_ hB, cell_keep xb2_ hB, cell_keep xa3_ hB, cell_keep xb3_ hB⟩ : Below (z108).heap.size (z108) _ → _) ?_; exact hkg117_2)
        clear hK K hS2
        try simp only [Act.put, List.setIfInBounds_toArray, List.set_cons_zero, List.set_cons_succ]
        refine wpAnyH_ready (rs := [14]) (by kernel_rfl) (by simp) ?_
        refine regCons rfl (fun K hK => ?_)
        go_simp
        have hc127 := implTypeSame (.mk 1 []) t4a _ _ _ _ _ (by have := HCL12.out; omega) (HAL12.out.below (below_trans hq108 (hkg117_2))) (HA4a.out.below (below_trans hq108 (hkg117_2))) (fun x hx => (HRL12.out x hx).below (below_trans hq108 (hkg117_2))) (fun x hx => (HR4a.out x hx).below (below_trans hq108 (hkg117_2)))
        rw [EQ126.out] at hc127
        refine hc127.mono ?_
        rintro e yg117_3 ⟨rfl, hyg117_3⟩
        have hkg117_3 := below_trans (hkg117_2) hyg117_3
        clear hc127
        refine hK.out _ _ ?_ (fun hS4 => ?_)
        · (refine (fun hB => ⟨hB, cell_keep xa1_ hB, cell_keep xb1_ hB, cell_keep xa2_ hB, cell_keep xb2_ hB, cell_keep xa3_ hB, cell_keep xb3_ hB⟩ : Below (z108).heap.size (z108) _ → _) ?_; exact hkg117_3)
        clear hK K hS3
        try simp only [Act.put, List.setIfInBounds_toArray, List.set_cons_zero, List.set_cons_succ]
        refine regTake (i := 15) (v := ?vg117_15) rfl (by kernel_rfl) (by kernel_rfl) (by kernel_rfl) (fun _ _ _ h => h) (Or.inl ⟨by rfl, ?hyg117_15⟩) (by assumption) ?_
        case hyg117_15 => (intro w hSw; (try dsimp only at hSw); go_simp; (try with_reducible rfl))
        try simp only [Act.put, List.setIfInBounds_toArray, List.set_cons_zero, List.set_cons_succ]
        refine regTake (i := 16) (v := .bool true) rfl (by kernel_rfl) (by kernel_rfl) (by kernel_rfl) (fun _ _ _ h => h) (Or.inl ⟨by rfl, ?hyg117_16⟩) (by assumption) ?_
        case hyg117_16 => (intro w hSw; (try dsimp only at hSw); go_simp; (try with_reducible rfl))
        try simp only [Act.put, List.setIfInBounds_toArray, List.set_cons_zero, List.set_cons_succ]
        refine regTake (i := 17) (v := ?vg117_17) rfl (by kernel_rfl) (by kernel_rfl) (by kernel_rfl) (fun _ _ _ h => h) (Or.inl ⟨by rfl, ?hyg117_17⟩) (by assumption) ?_
        case hyg117_17 => (intro w hSw; (try dsimp only at hSw); go_simp; (try with_reducible rfl))
        try simp only [Act.put, List.setIfInBounds_toArray, List.set_cons_zero, List.set_cons_succ]
        refine wpAnyH_done (by kernel_rfl) ?_ _
        have hlg117_ := below_trans hq108 hkg117_3
        replace xa1_ := cell_keep xa1_ hkg117_3
        replace xb1_ := cell_keep xb1_ hkg117_3
        replace xa2_ := cell_keep xa2_ hkg117_3
        replace xb2_ := cell_keep xb2_ hkg117_3
        replace xa3_ := cell_keep xa3_ hkg117_3
        replace xb3_ := cell_keep xb3_ hkg117_3
        go_wp2_with fail
        go_ret
        exact ⟨rfl, below_trans HBL.out hlg117_⟩
      · have EQ116 := hid hq116
        clear hq116
        have EQ130 := hid (show subOf 1 t4a (.mk 1 []) = true from sub_unk2 t4a EQ17.out)
        have EQ133 := hid (show subOf (-1) (.mk 1 []) t4a = true from sub_unk3 t4a EQ17.out)
        have EQ138 := hid (show tyEq (.mk 1 []) t4a = false from (by rw [← sub_unk1 t4a EQ17.out]; exact EQ116.out))
        go_wp2_with fail
        refine wp_region_held_drew (S := (fun w' => Below (z108).heap.size (z108) w' ∧ w'.cell? ⟨z4.heap.size, 0, none⟩ = some (.int .i64 k4a) ∧ w'.cell? ⟨z4.heap.size, 1, none⟩ = some (.slice a4a n4a c4a) ∧ w'.cell? ⟨z4.heap.size + 1, 0, none⟩ = some (.int .i64 k4b) ∧ w'.cell? ⟨z4.heap.size + 1, 1, none⟩ = some (.slice a4b n4b c4b) ∧ w'.cell? ⟨z10.heap.size, 0, none⟩ = some (.int .i64 1) ∧ w'.cell? ⟨z10.heap.size, 1, none⟩ = some (.slice none 0 0))) (by kernel_rfl) ?_ (fun hS0 => ?_)
        · (refine (fun hB => ⟨hB, cell_keep xa1_ hB, cell_keep xb1_ hB, cell_keep xa2_ hB, cell_keep xb2_ hB, cell_keep xa3_ hB, cell_keep xb3_ hB⟩ : Below (z108).heap.size (z108) _ → _) ?_; exact below_drew _)
        refine regTake (i := 0) (v := ?vg129_0) rfl (by kernel_rfl) (by kernel_rfl) (by kernel_rfl) (fun _ _ _ h => h) (Or.inl ⟨by rfl, ?hyg129_0⟩) (by assumption) ?_
        case hyg129_0 => (intro w hSw; (try dsimp only at hSw); go_simp; (try with_reducible rfl))
        try simp only [Act.put, List.setIfInBounds_toArray, List.set_cons_zero, List.set_cons_succ]
        refine regTake (i := 1) (v := ?vg129_1) rfl (by kernel_rfl) (by kernel_rfl) (by kernel_rfl) (fun _ _ _ h => h) (Or.inl ⟨by rfl, ?hyg129_1⟩) (by assumption) ?_
        case hyg129_1 => (intro w hSw; (try dsimp only at hSw); go_simp; (try with_reducible rfl))
        try simp only [Act.put, List.setIfInBounds_toArray, List.set_cons_zero, List.set_cons_succ]
        refine wpAnyH_ready (rs := [2]) (by kernel_rfl) (by simp) ?_
        refine regCons rfl (fun K hK => ?_)
        go_simp
        have hc131 := implSubPositive t4a (.mk 1 []) _ _ _ _ _ (HA4a.out.below (below_trans hq108 (below_drew (z108)))) (HAL12.out.below (below_trans hq108 (below_drew (z108))))
        rw [EQ130.out] at hc131
        refine hc131.mono ?_
        rintro e yg129_0 ⟨rfl, hyg129_0⟩
        have hkg129_0 := below_trans (below_drew (z108)) hyg129_0
        clear hc131
        refine hK.out _ _ ?_ (fun hS1 => ?_)
        · (refine (fun hB => ⟨hB, cell_keep xa1_ hB, cell_keep xb1_ hB, cell_keep xa2_ hB, cell_keep xb2_ hB, cell_keep xa3_ hB, cell_keep xb3_ hB⟩ : Below (z108).heap.size (z108) _ → _) ?_; exact hkg129_0)
        clear hK K hS0
        try simp only [Act.put, List.setIfInBounds_toArray, List.set_cons_zero, List.set_cons_succ]
        refine regTake (i := 3) (v := ?vg129_3) rfl (by kernel_rfl) (by kernel_rfl) (by kernel_rfl) (fun _ _ _ h => h) (Or.inl ⟨by rfl, ?hyg129_3⟩) (by assumption) ?_
        case hyg129_3 => (intro w hSw; (try dsimp only at hSw); go_simp; (try with_reducible rfl))
        try simp only [Act.put, List.setIfInBounds_toArray, List.set_cons_zero, List.set_cons_succ]
        refine regTake (i := 4) (v := ?vg129_4) rfl (by kernel_rfl) (by kernel_rfl) (by kernel_rfl) (fun _ _ _ h => h) (Or.inl ⟨by rfl, ?hyg129_4⟩) (by assumption) ?_
        case hyg129_4 => (intro w hSw; (try dsimp only at hSw); go_simp; (try with_reducible rfl))
        try simp only [Act.put, List.setIfInBounds_toArray, List.set_cons_zero, List.set_cons_succ]
        refine regTake (i := 5) (v := ?vg129_5) rfl (by kernel_rfl) (by kernel_rfl) (by kernel_rfl) (fun _ _ _ h => h) (Or.inl ⟨by rfl, ?hyg129_5⟩) (by assumption) ?_
        case hyg129_5 => (intro w hSw; (try dsimp only at hSw); go_simp; (try with_reducible rfl))
        try simp only [Act.put, List.setIfInBounds_toArray, List.set_cons_zero, List.set_cons_succ]
        refine wpAnyH_ready (rs := [6]) (by kernel_rfl) (by simp) ?_
        refine regCons rfl (fun K hK => ?_)
        go_simp
        have hc134 := implSubNegative (.mk 1 []) t4a _ _ _ _ _ (HAL12.out.below (below_trans hq108 (hkg129_0))) (HA4a.out.below (below_trans hq108 (hkg129_0)))
        rw [EQ133.out] at hc134
        refine hc134.mono ?_
        rintro e yg129_1 ⟨rfl, hyg129_1⟩
        have hkg129_1 := below_trans (hkg129_0) hyg129_1
        clear hc134
        refine hK.out _ _ ?_ (fun hS2 => ?_)
        · (refine (fun hB => ⟨hB, cell_keep xa1_ hB, cell_keep xb1_ hB, cell_keep xa2_ hB, cell_keep xb2_ hB, cell_keep xa3_ hB, cell_keep xb3_ hB⟩ : Below (z108).heap.size (z108) _ → _) ?_; exact hkg129_1)
        clear hK K hS1
        try simp only [Act.put, List.setIfInBounds_toArray, List.set_cons_zero, List.set_cons_succ]
        refine regTake (i := 7) (v := .bool true) rfl (by kernel_rfl) (by kernel_rfl) (by kernel_rfl) (fun _ _ _ h => h) (Or.inl ⟨by rfl, ?hyg129_7⟩) (by assumption) ?_
        case hyg129_7 => (intro w hSw; (try dsimp only at hSw); go_simp; (try with_reducible rfl))
        try simp only [Act.put, List.setIfInBounds_toArray, List.set_cons_zero, List.set_cons_succ]
        refine regTake (i := 8) (v := ?vg129_8) rfl (by kernel_rfl) (by kernel_rfl) (by kernel_rfl) (fun _ _ _ h => h) (Or.inl ⟨by rfl, ?hyg129_8⟩) (by assumption) ?_
        case hyg129_8 => (intro w hSw; (try dsimp only at hSw); go_simp; (try with_reducible rfl))
        try simp only [Act.put, List.setIfInBounds_toArray, List.set_cons_zero, List.set_cons_succ]
        refine regTake (i := 9) (v := ?vg129_9) rfl (by kernel_rfl) (by kernel_rfl) (by kernel_rfl) (fun _ _ _ h => h) (Or.inl ⟨by rfl, ?hyg129_9⟩) (by assumption) ?_
        case hyg129_9 => (intro w hSw; (try dsimp only at hSw); go_simp; (try with_reducible rfl))
        try simp only [Act.put, List.setIfInBounds_toArray, List.set_cons_zero, List.set_cons_succ]
        refine regTake (i := 10) (v := ?vg129_10) rfl (by kernel_rfl) (by kernel_rfl) (by kernel_rfl) (fun _ _ _ h => h) (Or.inl ⟨by rfl, ?hyg129_10⟩) (by assumption) ?_
        case hyg129_10 => (intro w hSw; (try dsimp only at hSw); go_simp; (try with_reducible rfl))
        try simp only [Act.put, List.setIfInBounds_toArray, List.set_cons_zero, List.set_cons_succ]
        refine regTake (i := 12) (v := ?vg129_12) rfl (by kernel_rfl) (by kernel_rfl) (by kernel_rfl) (fun _ _ _ h => h) (Or.inl ⟨by rfl, ?hyg129_12⟩) (by assumption) ?_
        case hyg129_12 => (intro w hSw; (try dsimp only at hSw); go_simp; (try with_reducible rfl))
        try simp only [Act.put, List.setIfInBounds_toArray, List.set_cons_zero, List.set_cons_succ]
        refine regTake (i := 13) (v := ?vg129_13) rfl (by kernel_rfl) (by kernel_rfl) (by kernel_rfl) (fun _ _ _ h => h) (Or.inl ⟨by rfl, ?hyg129_13⟩) (by assumption) ?_
        case hyg129_13 => (intro w hSw; (try dsimp only at hSw); go_simp; (try with_reducible rfl))
        try simp only [Act.put, List.setIfInBounds_toArray, List.set_cons_zero, List.set_cons_succ]
        refine wpAnyH_ready (rs := [11]) (by kernel_rfl) (by simp) ?_
        refine regCons rfl (fun K hK => ?_)
        go_simp
        have hc136 := implSubPositive (.mk 1 []) t4a _ _ _ _ _ (HAL12.out.below (below_trans hq108 (hkg129_1))) (HA4a.out.below (below_trans hq108 (hkg129_1)))
        rw [EQ116.out] at hc136
        refine hc136.mono ?_
        rintro e yg129_2 ⟨rfl, hyg129_2⟩
        have hkg129_2 := below_trans (hkg129_1) hyg129_2
        clear hc136
        refine hK.out _ _ ?_ (fun hS3 => ?_)
        · (refine (fun hB => ⟨hB, cell_keep xa1_ hB, cell_keep xb1_ hB, cell_keep xa2_ hB, cell_keep xb2_ hB, cell_keep xa3_ hB, cell_keep xb3_ hB⟩ : Below (z108).heap.size (z108) _ → _) ?_; exact hkg129_2)
        clear hK K hS2
        try simp only [Act.put, List.setIfInBounds_toArray, List.set_cons_zero, List.set_cons_succ]
        refine wpAnyH_ready (rs := [14]) (by kernel_rfl) (by simp) ?_
        refine regCons rfl (fun K hK => ?_)
        go_simp
        have hc139 := implTypeSame (.mk 1 []) t4a _ _ _ _ _ (by have := HCL12.out; omega) (HAL12.out.below (below_trans hq108 (hkg129_2))) (HA4a.out.below (below_trans hq108 (hkg129_2))) (fun x hx => (HRL12.out x hx).below (below_trans hq108 (hkg129_2))) (fun x hx => (HR4a.out x hx).below (below_trans hq108 (hkg129_2)))
        rw [EQ138.out] at hc139
        refine hc139.mono ?_
        rintro e yg129_3 ⟨rfl, hyg129_3⟩
        have hkg129_3 := below_trans (hkg129_2) hyg129_3
        clear hc139
        refine hK.out _ _ ?_ (fun hS4 => ?_)
        · (refine (fun hB => ⟨hB, cell_keep xa1_ hB, cell_keep xb1_ hB, cell_keep xa2_ hB, cell_keep xb2_ hB, cell_keep xa3_ hB, cell_keep xb3_ hB⟩ : Below (z108).heap.size (z108) _ → _) ?_; exact hkg129_3)
        clear hK K hS3
        try simp only [Act.put, List.setIfInBounds_toArray, List.set_cons_zero, List.set_cons_succ]
        refine regTake (i := 15) (v := ?vg129_15) rfl (by kernel_rfl) (by kernel_rfl) (by kernel_rfl) (fun _ _ _ h => h) (Or.inl ⟨by rfl, ?hyg129_15⟩) (by assumption) ?_
        case hyg129_15 => (intro w hSw; (try dsimp only at hSw); go_simp; (try with_reducible rfl))
        try simp only [Act.put, List.setIfInBounds_toArray, List.set_cons_zero, List.set_cons_succ]
        refine regTake (i := 16) (v := .bool true) rfl (by kernel_rfl) (by kernel_rfl) (by kernel_rfl) (fun _ _ _ h => h) (Or.inl ⟨by rfl, ?hyg129_16⟩) (by assumption) ?_
        case hyg129_16 => (intro w hSw; (try dsimp only at hSw); go_simp; (try with_reducible rfl))
        try simp only [Act.put, List.setIfInBounds_toArray, List.set_cons_zero, List.set_cons_succ]
        refine regTake (i := 17) (v := ?vg129_17) rfl (by kernel_rfl) (by kernel_rfl) (by kernel_rfl) (fun _ _ _ h => h) (Or.inl ⟨by rfl, ?hyg129_17⟩) (by assumption) ?_
        case hyg129_17 => (intro w hSw; (try dsimp only at hSw); go_simp; (try with_reducible rfl))
        try simp only [Act.put, List.setIfInBounds_toArray, List.set_cons_zero, List.set_cons_succ]
        refine wpAnyH_done (by kernel_rfl) ?_ _
        have hlg129_ := below_trans hq108 hkg129_3
        replace xa1_ := cell_keep xa1_ hkg129_3
        replace xb1_ := cell_keep xb1_ hkg129_3
        replace xa2_ := cell_keep xa2_ hkg129_3
        replace xb2_ := cell_keep xb2_ hkg129_3
        replace xa3_ := cell_keep xa3_ hkg129_3
        replace xb3_ := cell_keep xb3_ hkg129_3
        go_wp2_with fail
        go_ret
        exact ⟨rfl, below_trans HBL.out hlg129_⟩
  · have EQ7 := hid hq7
    clear hq7
    go_wp2_with fail
    have hc142 := implSubtype t4a t4b _ _ _ _ _ (HA4a.out.below h05) (HA4b.out.below h05)
    rw [EQ7.out] at hc142
    refine hc142.mono ?_
    rintro e z143 ⟨rfl, hz143⟩
    have hq143 := below_trans h05 hz143
    replace xa1_ := cell_keep xa1_ hz143
    replace xb1_ := cell_keep xb1_ hz143
    replace xa2_ := cell_keep xa2_ hz143
    replace xb2_ := cell_keep xb2_ hz143
    clear hc142 hz143
    have hba146 : Below z143.heap.size z143 (z143.alloc (Obj.cells #[.int .i64 1, .slice none 0 0] 25)) := ((Below.refl _ _).alloc (Nat.le_refl _) _)
    have hbb146 := hba146
    have hbc146 := below_trans hq143 hbb146
    replace HA4a := hid (HA4a.out.below hbc146)
    replace HR4a := hid (fun x hx => (HR4a.out x hx).below hbc146)
    replace HA4b := hid (HA4b.out.below hbc146)
    replace HR4b := hid (fun x hx => (HR4b.out x hx).below hbc146)
    replace HBL := hid (below_trans HBL.out hbc146)
    replace xa1_ := cell_keep xa1_ hbb146
    replace xb1_ := cell_keep xb1_ hbb146
    replace xa2_ := cell_keep xa2_ hbb146
    replace xb2_ := cell_keep xb2_ hbb146
    have hl146 := lay1 z143 (Obj.cells #[.int .i64 1, .slice none 0 0] 25)
    have HAL145 := hid (show Ty.At (z143.alloc (Obj.cells #[.int .i64 1, .slice none 0 0] 25)) (.mk 1 []) (.agg #[.int .i64 1, .slice none 0 0]) [] from Ty.at_mk.2 ⟨_, rfl, .inl ⟨rfl, rfl, _, _, rfl⟩⟩)
    have HRL145 := hid (show ∀ x ∈ ([] : List Nat), Raw (z143.alloc (Obj.cells #[.int .i64 1, .slice none 0 0] 25)) x from fun x hx => by cases hx)
    have HCL145 := hid (show ((.mk 1 []) : Ty).cnt ≤ 0 from by simp [Ty.cnt, cntL])
    have xa4_ : ((z143.alloc (Obj.cells #[.int .i64 1, .slice none 0 0] 25))).cell? ⟨z143.heap.size, 0, none⟩ = some (.int .i64 1) := by rw [cell_of_block (hl146)]; rfl
    have xb4_ : ((z143.alloc (Obj.cells #[.int .i64 1, .slice none 0 0] 25))).cell? ⟨z143.heap.size, 1, none⟩ = some (.slice none 0 0) := by rw [cell_of_block (hl146)]; rfl
    have h0146 := Below.refl ((z143.alloc (Obj.cells #[.int .i64 1, .slice none 0 0] 25))).heap.size (z143.alloc (Obj.cells #[.int .i64 1, .slice none 0 0] 25))
    clear hba146 hbb146 hbc146 hl146
    rcases Bool.eq_false_or_eq_true (vld t4a) with hq150 | hq150
    · have EQ150 := hid hq150
      clear hq150
      rcases Bool.eq_false_or_eq_true (vld t4b) with hq156 | hq156
      · have EQ156 := hid hq156
        clear hq156
        go_wp2_with fail
        have hc158 := specSubtype t4a t4b _ _ _ _ _ (HA4a.out.below h0146) (HA4b.out.below h0146)
        rw [EQ7.out] at hc158
        refine hc158.mono ?_
        rintro e z159 ⟨rfl, hz159⟩
        have hq159 := below_trans h0146 hz159
        replace xa1_ := cell_keep xa1_ hz159
        replace xb1_ := cell_keep xb1_ hz159
        replace xa2_ := cell_keep xa2_ hz159
        replace xb2_ := cell_keep xb2_ hz159
        replace xa4_ := cell_keep xa4_ hz159
        replace xb4_ := cell_keep xb4_ hz159
        clear hc158 hz159
        go_wp2_with fail
        have hc160 := implTypeValid_any t4a _ _ _ (HA4a.out.below hq159)
        rw [EQ150.out] at hc160
        refine hc160.mono ?_
        rintro e z161 ⟨rfl, hz161⟩
        have hq161 := below_trans hq159 hz161
        replace xa1_ := cell_keep xa1_ hz161
        replace xb1_ := cell_keep xb1_ hz161
        replace xa2_ := cell_keep xa2_ hz161
        replace xb2_ := cell_keep xb2_ hz161
        replace xa4_ := cell_keep xa4_ hz161
        replace xb4_ := cell_keep xb4_ hz161
        clear hc160 hz161
        go_wp2_with fail
        have hc162 := implTypeValid_any t4b _ _ _ (HA4b.out.below hq161)
        rw [EQ156.out] at hc162
        refine hc162.mono ?_
        rintro e z163 ⟨rfl, hz163⟩
        have hq163 := below_trans hq161 hz163
        replace xa1_ := cell_keep xa1_ hz163
        replace xb1_ := cell_keep xb1_ hz163
        replace xa2_ := cell_keep xa2_ hz163
        replace xb2_ := cell_keep xb2_ hz163
        replace xa4_ := cell_keep xa4_ hz163
        replace xb4_ := cell_keep xb4_ hz163
        clear hc162 hz163
        rcases Bool.eq_false_or_eq_true (staOf t4a) with hq165 | hq165
        · have EQ165 := hid hq165
          clear hq165
          rcases Bool.eq_false_or_eq_true (staOf t4b) with hq169 | hq169
          · have EQ169 := hid hq169
            clear hq169
            go_wp2_with fail
            have hc171 := implIsStatic t4a _ _ _ (HA4a.out.below hq163) (by have := cnt_shp4 (t := t4a) EQ150.out; omega)
            rw [EQ165.out] at hc171
            refine hc171.mono ?_
            rintro e z172 ⟨rfl, hz172⟩
            have hq172 := below_trans hq163 hz172
            replace xa1_ := cell_keep xa1_ hz172
            replace xb1_ := cell_keep xb1_ hz172
            replace xa2_ := cell_keep xa2_ hz172
            replace xb2_ := cell_keep xb2_ hz172
            replace xa4_ := cell_keep xa4_ hz172
            replace xb4_ := cell_keep xb4_ hz172
            clear hc171 hz172
            go_wp2_with fail
            have hc173 := implIsStatic t4b _ _ _ (HA4b.out.below hq172) (by have := cnt_shp4 (t := t4b) EQ156.out; omega)
            rw [EQ169.out] at hc173
            refine hc173.mono ?_
            rintro e z174 ⟨rfl, hz174⟩
            have hq174 := below_trans hq172 hz174
            replace xa1_ := cell_keep xa1_ hz174
            replace xb1_ := cell_keep xb1_ hz174
            replace xa2_ := cell_keep xa2_ hz174
            replace xb2_ := cell_keep xb2_ hz174
            replace xa4_ := cell_keep xa4_ hz174
            replace xb4_ := cell_keep xb4_ hz174
            clear hc173 hz174
            have EQ175 := hid (show tyEq t4a t4b = false from (by rw [← sub_sta t4a t4b EQ165.out EQ169.out]; exact EQ7.out))
            go_wp2_with fail
            have hc176 := implTypeSame t4a t4b _ _ _ _ _ (by have := cnt_shp4 (t := t4a) EQ150.out; omega) (HA4a.out.below hq174) (HA4b.out.below hq174) (fun x hx => (HR4a.out x hx).below hq174) (fun x hx => (HR4b.out x hx).below hq174)
            rw [EQ175.out] at hc176
            refine hc176.mono ?_
            rintro e z177 ⟨rfl, hz177⟩
            have hq177 := below_trans hq174 hz177
            replace xa1_ := cell_keep xa1_ hz177
            replace xb1_ := cell_keep xb1_ hz177
            replace xa2_ := cell_keep xa2_ hz177
            replace xb2_ := cell_keep xb2_ hz177
            replace xa4_ := cell_keep xa4_ hz177
            replace xb4_ := cell_keep xb4_ hz177
            clear hc176 hz177
            rcases Bool.eq_false_or_eq_true (subOf 1 (.mk 1 []) t4a) with hq185 | hq185
            · have EQ185 := hid hq185
              clear hq185
              have EQ187 := hid (show subOf 1 t4a (.mk 1 []) = true from sub_unk2 t4a EQ150.out)
              have EQ190 := hid (show subOf (-1) (.mk 1 []) t4a = true from sub_unk3 t4a EQ150.out)
              have EQ195 := hid (show tyEq (.mk 1 []) t4a = true from (by rw [← sub_unk1 t4a EQ150.out]; exact EQ185.out))
              go_wp2_with fail
              refine wp_region_held_drew (S := (fun w' => Below (z177).heap.size (z177) w' ∧ w'.cell? ⟨z4.heap.size, 0, none⟩ = some (.int .i64 k4a) ∧ w'.cell? ⟨z4.heap.size, 1, none⟩ = some (.slice a4a n4a c4a) ∧ w'.cell? ⟨z4.heap.size + 1, 0, none⟩ = some (.int .i64 k4b) ∧ w'.cell? ⟨z4.heap.size + 1, 1, none⟩ = some (.slice a4b n4b c4b) ∧ w'.cell? ⟨z143.heap.size, 0, none⟩ = some (.int .i64 1) ∧ w'.cell? ⟨z143.heap.size, 1, none⟩ = some (.slice none 0 0))) (by kernel_rfl) ?_ (fun hS0 => ?_)
              · (refine (fun hB => ⟨hB, cell_keep xa1_ hB, cell_keep xb1_ hB, cell_keep xa2_ hB, cell_keep xb2_ hB, cell_keep xa4_ hB, cell_keep xb4_ hB⟩ : Below (z177).heap.size (z177) _ → _) ?_; exact below_drew _)
              refine regTake (i := 0) (v := ?vg186_0) rfl (by kernel_rfl) (by kernel_rfl) (by kernel_rfl) (fun _ _ _ h => h) (Or.inl ⟨by rfl, ?hyg186_0⟩) (by assumption) ?_
              case hyg186_0 => (intro w hSw; (try dsimp only at hSw); go_simp; (try with_reducible rfl))
              try simp only [Act.put, List.setIfInBounds_toArray, List.set_cons_zero, List.set_cons_succ]
              refine regTake (i := 1) (v := ?vg186_1) rfl (by kernel_rfl) (by kernel_rfl) (by kernel_rfl) (fun _ _ _ h => h) (Or.inl ⟨by rfl, ?hyg186_1⟩) (by assumption) ?_
              case hyg186_1 => (intro w hSw; (try dsimp only at hSw); go_simp; (try with_reducible rfl))
              try simp only [Act.put, List.setIfInBounds_toArray, List.set_cons_zero, List.set_cons_succ]
              refine wpAnyH_ready (rs := [2]) (by kernel_rfl) (by simp) ?_
              refine regCons rfl (fun K hK => ?_)
              go_simp
              have hc188 := implSubPositive t4a (.mk 1 []) _ _ _ _ _ (HA4a.out.below (below_trans hq177 (below_drew (z177)))) (HAL145.out.below (below_trans hq177 (below_drew (z177))))
              rw [EQ187.out] at hc188
              refine hc188.mono ?_
              rintro e yg186_0 ⟨rfl, hyg186_0⟩
              have hkg186_0 := below_trans (below_drew (z177)) hyg186_0
              clear hc188
              refine hK.out _ _ ?_ (fun hS1 => ?_)
              · (refine (fun hB => ⟨hB, cell_keep xa1_ hB, cell_keep xb1_ hB, cell_keep xa2_ hB, cell_keep xb2_ hB, cell_keep xa4_ hB, cell_keep xb4_ hB⟩ : Below (z177).heap.size (z177) _ → _) ?_; exact hkg186_0)
              clear hK K hS0
              try simp only [Act.put, List.setIfInBounds_toArray, List.set_cons_zero, List.set_cons_succ]
              refine regTake (i := 3) (v := ?vg186_3) rfl (by kernel_rfl) (by kernel_rfl) (by kernel_rfl) (fun _ _ _ h => h) (Or.inl ⟨by rfl, ?hyg186_3⟩) (by assumption) ?_
              case hyg186_3 => (intro w hSw; (try dsimp only at hSw); go_simp; (try with_reducible rfl))
              try simp only [Act.put, List.setIfInBounds_toArray, List.set_cons_zero, List.set_cons_succ]
              refine regTake (i := 4) (v := ?vg186_4) rfl (by kernel_rfl) (by kernel_rfl) (by kernel_rfl) (fun _ _ _ h => h) (Or.inl ⟨by rfl, ?hyg186_4⟩) (by assumption) ?_
              case hyg186_4 => (intro w hSw; (try dsimp only at hSw); go_simp; (try with_reducible rfl))
              try simp only [Act.put, List.setIfInBounds_toArray, List.set_cons_zero, List.set_cons_succ]
              refine regTake (i := 5) (v := ?vg186_5) rfl (by kernel_rfl) (by kernel_rfl) (by kernel_rfl) (fun _ _ _ h => h) (Or.inl ⟨by rfl, ?hyg186_5⟩) (by assumption) ?_
              case hyg186_5 => (intro w hSw; (try dsimp only at hSw); go_simp; (try with_reducible rfl))
              try simp only [Act.put, List.setIfInBounds_toArray, List.set_cons_zero, List.set_cons_succ]
              refine wpAnyH_ready (rs := [6]) (by kernel_rfl) (by simp) ?_
              refine regCons rfl (fun K hK => ?_)
              go_simp
              have hc191 := implSubNegative (.mk 1 []) t4a _ _ _ _ _ (HAL145.out.below (below_trans hq177 (hkg186_0))) (HA4a.out.below (below_trans hq177 (hkg186_0)))
              rw [EQ190.out] at hc191
              refine hc191.mono ?_
              rintro e yg186_1 ⟨rfl, hyg186_1⟩
              have hkg186_1 := below_trans (hkg186_0) hyg186_1
              clear hc191
              refine hK.out _ _ ?_ (fun hS2 => ?_)
              · (refine (fun hB => ⟨hB, cell_keep xa1_ hB, cell_keep xb1_ hB, cell_keep xa2_ hB, cell_keep xb2_ hB, cell_keep xa4_ hB, cell_keep xb4_ hB⟩ : Below (z177).heap.size (z177) _ → _) ?_; exact hkg186_1)
              clear hK K hS1
              try simp only [Act.put, List.setIfInBounds_toArray, List.set_cons_zero, List.set_cons_succ]
              refine regTake (i := 7) (v := .bool true) rfl (by kernel_rfl) (by kernel_rfl) (by kernel_rfl) (fun _ _ _ h => h) (Or.inl ⟨by rfl, ?hyg186_7⟩) (by assumption) ?_
              case hyg186_7 => (intro w hSw; (try dsimp only at hSw); go_simp; (try with_reducible rfl))
              try simp only [Act.put, List.setIfInBounds_toArray, List.set_cons_zero, List.set_cons_succ]
              refine regTake (i := 8) (v := ?vg186_8) rfl (by kernel_rfl) (by kernel_rfl) (by kernel_rfl) (fun _ _ _ h => h) (Or.inl ⟨by rfl, ?hyg186_8⟩) (by assumption) ?_
              case hyg186_8 => (intro w hSw; (try dsimp only at hSw); go_simp; (try with_reducible rfl))
              try simp only [Act.put, List.setIfInBounds_toArray, List.set_cons_zero, List.set_cons_succ]
              refine regTake (i := 9) (v := ?vg186_9) rfl (by kernel_rfl) (by kernel_rfl) (by kernel_rfl) (fun _ _ _ h => h) (Or.inl ⟨by rfl, ?hyg186_9⟩) (by assumption) ?_
              case hyg186_9 => (intro w hSw; (try dsimp only at hSw); go_simp; (try with_reducible rfl))
              try simp only [Act.put, List.setIfInBounds_toArray, List.set_cons_zero, List.set_cons_succ]
              refine regTake (i := 10) (v := ?vg186_10) rfl (by kernel_rfl) (by kernel_rfl) (by kernel_rfl) (fun _ _ _ h => h) (Or.inl ⟨by rfl, ?hyg186_10⟩) (by assumption) ?_
              case hyg186_10 => (intro w hSw; (try dsimp only at hSw); go_simp; (try with_reducible rfl))
              try simp only [Act.put, List.setIfInBounds_toArray, List.set_cons_zero, List.set_cons_succ]
              refine regTake (i := 12) (v := ?vg186_12) rfl (by kernel_rfl) (by kernel_rfl) (by kernel_rfl) (fun _ _ _ h => h) (Or.inl ⟨by rfl, ?hyg186_12⟩) (by assumption) ?_
              case hyg186_12 => (intro w hSw; (try dsimp only at hSw); go_simp; (try with_reducible rfl))
              try simp only [Act.put, List.setIfInBounds_toArray, List.set_cons_zero, List.set_cons_succ]
              refine regTake (i := 13) (v := ?vg186_13) rfl (by kernel_rfl) (by kernel_rfl) (by kernel_rfl) (fun _ _ _ h => h) (Or.inl ⟨by rfl, ?hyg186_13⟩) (by assumption) ?_
              case hyg186_13 => (intro w hSw; (try dsimp only at hSw); go_simp; (try with_reducible rfl))
              try simp only [Act.put, List.setIfInBounds_toArray, List.set_cons_zero, List.set_cons_succ]
              refine wpAnyH_ready (rs := [11]) (by kernel_rfl) (by simp) ?_
              refine regCons rfl (fun K hK => ?_)
              go_simp
              have hc193 := implSubPositive (.mk 1 []) t4a _ _ _ _ _ (HAL145.out.below (below_trans hq177 (hkg186_1))) (HA4a.out.below (below_trans hq177 (hkg186_1)))
              rw [EQ185.out] at hc193
              refine hc193.mono ?_
              rintro e yg186_2 ⟨rfl, hyg186_2⟩
              have hkg186_2 := below_trans (hkg186_1) hyg186_2
              clear hc193
              refine hK.out _ _ ?_ (fun hS3 => ?_)
              · (refine (fun hB => ⟨hB, cell_keep xa1_ hB, cell_keep xb1_ hB, cell_keep xa2_ hB, cell_keep xb2_ hB, cell_keep xa4_ hB, cell_keep xb4_ hB⟩ : Below (z177).heap.size (z177) _ → _) ?_; exact hkg186_2)
              clear hK K hS2
              try simp only [Act.put, List.setIfInBounds_toArray, List.set_cons_zero, List.set_cons_succ]
              refine wpAnyH_ready (rs := [14]) (by kernel_rfl) (by simp) ?_
              refine regCons rfl (fun K hK => ?_)
              go_simp
              have hc196 := implTypeSame (.mk 1 []) t4a _ _ _ _ _ (by have := HCL145.out; omega) (HAL145.out.below (below_trans hq177 (hkg186_2))) (HA4a.out.below (below_trans hq177 (hkg186_2))) (fun x hx => (HRL145.out x hx).below (below_trans hq177 (hkg186_2))) (fun x hx => (HR4a.out x hx).below (below_trans hq177 (hkg186_2)))
              rw [EQ195.out] at hc196
              refine hc196.mono ?_
              rintro e yg186_3 ⟨rfl, hyg186_3⟩
              have hkg186_3 := below_trans (hkg186_2) hyg186_3
              clear hc196
              refine hK.out _ _ ?_ (fun hS4 => ?_)
              · (refine (fun hB => ⟨hB, cell_keep xa1_ hB, cell_keep xb1_ hB, cell_keep xa2_ hB, cell_keep xb2_ hB, cell_keep xa4_ hB, cell_keep xb4_ hB⟩ : Below (z177).heap.size (z177) _ → _) ?_; exact hkg186_3)
              clear hK K hS3
              try simp only [Act.put, List.setIfInBounds_toArray, List.set_cons_zero, List.set_cons_succ]
              refine regTake (i := 15) (v := ?vg186_15) rfl (by kernel_rfl) (by kernel_rfl) (by kernel_rfl) (fun _ _ _ h => h) (Or.inl ⟨by rfl, ?hyg186_15⟩) (by assumption) ?_
              case hyg186_15 => (intro w hSw; (try dsimp only at hSw); go_simp; (try with_reducible rfl))
              try simp only [Act.put, List.setIfInBounds_toArray, List.set_cons_zero, List.set_cons_succ]
              refine regTake (i := 16) (v := .bool true) rfl (by kernel_rfl) (by kernel_rfl) (by kernel_rfl) (fun _ _ _ h => h) (Or.inl ⟨by rfl, ?hyg186_16⟩) (by assumption) ?_
              case hyg186_16 => (intro w hSw; (try dsimp only at hSw); go_simp; (try with_reducible rfl))
              try simp only [Act.put, List.setIfInBounds_toArray, List.set_cons_zero, List.set_cons_succ]
              refine regTake (i := 17) (v := ?vg186_17) rfl (by kernel_rfl) (by kernel_rfl) (by kernel_rfl) (fun _ _ _ h => h) (Or.inl ⟨by rfl, ?hyg186_17⟩) (by assumption) ?_
              case hyg186_17 => (intro w hSw; (try dsimp only at hSw); go_simp; (try with_reducible rfl))
              try simp only [Act.put, List.setIfInBounds_toArray, List.set_cons_zero, List.set_cons_succ]
              refine wpAnyH_done (by kernel_rfl) ?_ _
              have hlg186_ := below_trans hq177 hkg186_3
              replace xa1_ := cell_keep xa1_ hkg186_3
              replace xb1_ := cell_keep xb1_ hkg186_3
              replace xa2_ := cell_keep xa2_ hkg186_3
              replace xb2_ := cell_keep xb2_ hkg186_3
              replace xa4_ := cell_keep xa4_ hkg186_3
              replace xb4_ := cell_keep xb4_ hkg186_3
              go_wp2_with fail
              go_ret
              exact ⟨rfl, below_trans HBL.out hlg186_⟩
            · have EQ185 := hid hq185
              clear hq185
              have EQ199 := hid (show subOf 1 t4a (.mk 1 []) = true from sub_unk2 t4a EQ150.out)
              have EQ202 := hid (show subOf (-1) (.mk 1 []) t4a = true from sub_unk3 t4a EQ150.out)
              have EQ207 := hid (show tyEq (.mk 1 []) t4a = false from (by rw [← sub_unk1 t4a EQ150.out]; exact EQ185.out))
              go_wp2_with fail
              refine wp_region_held_drew (S := (fun w' => Below (z177).heap.size (z177) w' ∧ w'.cell? ⟨z4.heap.size, 0, none⟩ = some (.int .i64 k4a) ∧ w'.cell? ⟨z4.heap.size, 1, none⟩ = some (.slice a4a n4a c4a) ∧ w'.cell? ⟨z4.heap.size + 1, 0, none⟩ = some (.int .i64 k4b) ∧ w'.cell? ⟨z4.heap.size + 1, 1, none⟩ = some (.slice a4b n4b c4b) ∧ w'.cell? ⟨z143.heap.size, 0, none⟩ = some (.int .i64 1) ∧ w'.cell? ⟨z143.heap.size, 1, none⟩ = some (.slice none 0 0))) (by kernel_rfl) ?_ (fun hS0 => ?_)
              · (refine (fun hB => ⟨hB, cell_keep xa1_ hB, cell_keep xb1_ hB, cell_keep xa2_ hB, cell_keep xb2_ hB, cell_keep xa4_ hB, cell_keep xb4_ hB⟩ : Below (z177).heap.size (z177) _ → _) ?_; exact below_drew _)
              refine regTake (i := 0) (v := ?vg198_0) rfl (by kernel_rfl) (by kernel_rfl) (by kernel_rfl) (fun _ _ _ h => h) (Or.inl ⟨by rfl, ?hyg198_0⟩) (by assumption) ?_
              case hyg198_0 => (intro w hSw; (try dsimp only at hSw); go_simp; (try with_reducible rfl))
              try simp only [Act.put, List.setIfInBounds_toArray, List.set_cons_zero, List.set_cons_succ]
              refine regTake (i := 1) (v := ?vg198_1) rfl (by kernel_rfl) (by kernel_rfl) (by kernel_rfl) (fun _ _ _ h => h) (Or.inl ⟨by rfl, ?hyg198_1⟩) (by assumption) ?_
              case hyg198_1 => (intro w hSw; (try dsimp only at hSw); go_simp; (try with_reducible rfl))
              try simp only [Act.put, List.setIfInBounds_toArray, List.set_cons_zero, List.set_cons_succ]
              refine wpAnyH_ready (rs := [2]) (by kernel_rfl) (by simp) ?_
              refine regCons rfl (fun K hK => ?_)
              go_simp
              have hc200 := implSubPositive t4a (.mk 1 []) _ _ _ _ _ (HA4a.out.below (below_trans hq177 (below_drew (z177)))) (HAL145.out.below (below_trans hq177 (below_drew (z177))))
              rw [EQ199.out] at hc200
              refine hc200.mono ?_
              rintro e yg198_0 ⟨rfl, hyg198_0⟩
              have hkg198_0 := below_trans (below_drew (z177)) hyg198_0
              clear hc200
              refine hK.out _ _ ?_ (fun hS1 => ?_)
              · (refine (fun hB => ⟨hB, cell_keep xa1_ hB, cell_keep xb1_ hB, cell_keep xa2_ hB, cell_keep xb2_ hB, cell_keep xa4_ hB, cell_keep xb4_ hB⟩ : Below (z177).heap.size (z177) _ → _) ?_; exact hkg198_0)
              clear hK K hS0
              try simp only [Act.put, List.setIfInBounds_toArray, List.set_cons_zero, List.set_cons_succ]
              refine regTake (i := 3) (v := ?vg198_3) rfl (by kernel_rfl) (by kernel_rfl) (by kernel_rfl) (fun _ _ _ h => h) (Or.inl ⟨by rfl, ?hyg198_3⟩) (by assumption) ?_
              case hyg198_3 => (intro w hSw; (try dsimp only at hSw); go_simp; (try with_reducible rfl))
              try simp only [Act.put, List.setIfInBounds_toArray, List.set_cons_zero, List.set_cons_succ]
              refine regTake (i := 4) (v := ?vg198_4) rfl (by kernel_rfl) (by kernel_rfl) (by kernel_rfl) (fun _ _ _ h => h) (Or.inl ⟨by rfl, ?hyg198_4⟩) (by assumption) ?_
              case hyg198_4 => (intro w hSw; (try dsimp only at hSw); go_simp; (try with_reducible rfl))
              try simp only [Act.put, List.setIfInBounds_toArray, List.set_cons_zero, List.set_cons_succ]
              refine regTake (i := 5) (v := ?vg198_5) rfl (by kernel_rfl) (by kernel_rfl) (by kernel_rfl) (fun _ _ _ h => h) (Or.inl ⟨by rfl, ?hyg198_5⟩) (by assumption) ?_
              case hyg198_5 => (intro w hSw; (try dsimp only at hSw); go_simp; (try with_reducible rfl))
              try simp only [Act.put, List.setIfInBounds_toArray, List.set_cons_zero, List.set_cons_succ]
              refine wpAnyH_ready (rs := [6]) (by kernel_rfl) (by simp) ?_
              refine regCons rfl (fun K hK => ?_)
              go_simp
              have hc203 := implSubNegative (.mk 1 []) t4a _ _ _ _ _ (HAL145.out.below (below_trans hq177 (hkg198_0))) (HA4a.out.below (below_trans hq177 (hkg198_0)))
              rw [EQ202.out] at hc203
              refine hc203.mono ?_
              rintro e yg198_1 ⟨rfl, hyg198_1⟩
              have hkg198_1 := below_trans (hkg198_0) hyg198_1
              clear hc203
              refine hK.out _ _ ?_ (fun hS2 => ?_)
              · (refine (fun hB => ⟨hB, cell_keep xa1_ hB, cell_keep xb1_ hB, cell_keep xa2_ hB, cell_keep xb2_ hB, cell_keep xa4_ hB, cell_keep xb4_ hB⟩ : Below (z177).heap.size (z177) _ → _) ?_; exact hkg198_1)
              clear hK K hS1
              try simp only [Act.put, List.setIfInBounds_toArray, List.set_cons_zero, List.set_cons_succ]
              refine regTake (i := 7) (v := .bool true) rfl (by kernel_rfl) (by kernel_rfl) (by kernel_rfl) (fun _ _ _ h => h) (Or.inl ⟨by rfl, ?hyg198_7⟩) (by assumption) ?_
              case hyg198_7 => (intro w hSw; (try dsimp only at hSw); go_simp; (try with_reducible rfl))
              try simp only [Act.put, List.setIfInBounds_toArray, List.set_cons_zero, List.set_cons_succ]
              refine regTake (i := 8) (v := ?vg198_8) rfl (by kernel_rfl) (by kernel_rfl) (by kernel_rfl) (fun _ _ _ h => h) (Or.inl ⟨by rfl, ?hyg198_8⟩) (by assumption) ?_
              case hyg198_8 => (intro w hSw; (try dsimp only at hSw); go_simp; (try with_reducible rfl))
              try simp only [Act.put, List.setIfInBounds_toArray, List.set_cons_zero, List.set_cons_succ]
              refine regTake (i := 9) (v := ?vg198_9) rfl (by kernel_rfl) (by kernel_rfl) (by kernel_rfl) (fun _ _ _ h => h) (Or.inl ⟨by rfl, ?hyg198_9⟩) (by assumption) ?_
              case hyg198_9 => (intro w hSw; (try dsimp only at hSw); go_simp; (try with_reducible rfl))
              try simp only [Act.put, List.setIfInBounds_toArray, List.set_cons_zero, List.set_cons_succ]
              refine regTake (i := 10) (v := ?vg198_10) rfl (by kernel_rfl) (by kernel_rfl) (by kernel_rfl) (fun _ _ _ h => h) (Or.inl ⟨by rfl, ?hyg198_10⟩) (by assumption) ?_
              case hyg198_10 => (intro w hSw; (try dsimp only at hSw); go_simp; (try with_reducible rfl))
              try simp only [Act.put, List.setIfInBounds_toArray, List.set_cons_zero, List.set_cons_succ]
              refine regTake (i := 12) (v := ?vg198_12) rfl (by kernel_rfl) (by kernel_rfl) (by kernel_rfl) (fun _ _ _ h => h) (Or.inl ⟨by rfl, ?hyg198_12⟩) (by assumption) ?_
              case hyg198_12 => (intro w hSw; (try dsimp only at hSw); go_simp; (try with_reducible rfl))
              try simp only [Act.put, List.setIfInBounds_toArray, List.set_cons_zero, List.set_cons_succ]
              refine regTake (i := 13) (v := ?vg198_13) rfl (by kernel_rfl) (by kernel_rfl) (by kernel_rfl) (fun _ _ _ h => h) (Or.inl ⟨by rfl, ?hyg198_13⟩) (by assumption) ?_
              case hyg198_13 => (intro w hSw; (try dsimp only at hSw); go_simp; (try with_reducible rfl))
              try simp only [Act.put, List.setIfInBounds_toArray, List.set_cons_zero, List.set_cons_succ]
              refine wpAnyH_ready (rs := [11]) (by kernel_rfl) (by simp) ?_
              refine regCons rfl (fun K hK => ?_)
              go_simp
              have hc205 := implSubPositive (.mk 1 []) t4a _ _ _ _ _ (HAL145.out.below (below_trans hq177 (hkg198_1))) (HA4a.out.below (below_trans hq177 (hkg198_1)))
              rw [EQ185.out] at hc205
              refine hc205.mono ?_
              rintro e yg198_2 ⟨rfl, hyg198_2⟩
              have hkg198_2 := below_trans (hkg198_1) hyg198_2
              clear hc205
              refine hK.out _ _ ?_ (fun hS3 => ?_)
              · (refine (fun hB => ⟨hB, cell_keep xa1_ hB, cell_keep xb1_ hB, cell_keep xa2_ hB, cell_keep xb2_ hB, cell_keep xa4_ hB, cell_keep xb4_ hB⟩ : Below (z177).heap.size (z177) _ → _) ?_; exact hkg198_2)
              clear hK K hS2
              try simp only [Act.put, List.setIfInBounds_toArray, List.set_cons_zero, List.set_cons_succ]
              refine wpAnyH_ready (rs := [14]) (by kernel_rfl) (by simp) ?_
              refine regCons rfl (fun K hK => ?_)
              go_simp
              have hc208 := implTypeSame (.mk 1 []) t4a _ _ _ _ _ (by have := HCL145.out; omega) (HAL145.out.below (below_trans hq177 (hkg198_2))) (HA4a.out.below (below_trans hq177 (hkg198_2))) (fun x hx => (HRL145.out x hx).below (below_trans hq177 (hkg198_2))) (fun x hx => (HR4a.out x hx).below (below_trans hq177 (hkg198_2)))
              rw [EQ207.out] at hc208
              refine hc208.mono ?_
              rintro e yg198_3 ⟨rfl, hyg198_3⟩
              have hkg198_3 := below_trans (hkg198_2) hyg198_3
              clear hc208
              refine hK.out _ _ ?_ (fun hS4 => ?_)
              · (refine (fun hB => ⟨hB, cell_keep xa1_ hB, cell_keep xb1_ hB, cell_keep xa2_ hB, cell_keep xb2_ hB, cell_keep xa4_ hB, cell_keep xb4_ hB⟩ : Below (z177).heap.size (z177) _ → _) ?_; exact hkg198_3)
              clear hK K hS3
              try simp only [Act.put, List.setIfInBounds_toArray, List.set_cons_zero, List.set_cons_succ]
              refine regTake (i := 15) (v := ?vg198_15) rfl (by kernel_rfl) (by kernel_rfl) (by kernel_rfl) (fun _ _ _ h => h) (Or.inl ⟨by rfl, ?hyg198_15⟩) (by assumption) ?_
              case hyg198_15 => (intro w hSw; (try dsimp only at hSw); go_simp; (try with_reducible rfl))
              try simp only [Act.put, List.setIfInBounds_toArray, List.set_cons_zero, List.set_cons_succ]
              refine regTake (i := 16) (v := .bool true) rfl (by kernel_rfl) (by kernel_rfl) (by kernel_rfl) (fun _ _ _ h => h) (Or.inl ⟨by rfl, ?hyg198_16⟩) (by assumption) ?_
              case hyg198_16 => (intro w hSw; (try dsimp only at hSw); go_simp; (try with_reducible rfl))
              try simp only [Act.put, List.setIfInBounds_toArray, List.set_cons_zero, List.set_cons_succ]
              refine regTake (i := 17) (v := ?vg198_17) rfl (by kernel_rfl) (by kernel_rfl) (by kernel_rfl) (fun _ _ _ h => h) (Or.inl ⟨by rfl, ?hyg198_17⟩) (by assumption) ?_
              case hyg198_17 => (intro w hSw; (try dsimp only at hSw); go_simp; (try with_reducible rfl))
              try simp only [Act.put, List.setIfInBounds_toArray, List.set_cons_zero, List.set_cons_succ]
              refine wpAnyH_done (by kernel_rfl) ?_ _
              have hlg198_ := below_trans hq177 hkg198_3
              replace xa1_ := cell_keep xa1_ hkg198_3
              replace xb1_ := cell_keep xb1_ hkg198_3
              replace xa2_ := cell_keep xa2_ hkg198_3
              replace xb2_ := cell_keep xb2_ hkg198_3
              replace xa4_ := cell_keep xa4_ hkg198_3
              replace xb4_ := cell_keep xb4_ hkg198_3
              go_wp2_with fail
              go_ret
              exact ⟨rfl, below_trans HBL.out hlg198_⟩
          · have EQ169 := hid hq169
            clear hq169
            go_wp2_with fail
            have hc211 := implIsStatic t4a _ _ _ (HA4a.out.below hq163) (by have := cnt_shp4 (t := t4a) EQ150.out; omega)
            rw [EQ165.out] at hc211
            refine hc211.mono ?_
            rintro e z212 ⟨rfl, hz212⟩
            have hq212 := below_trans hq163 hz212
            replace xa1_ := cell_keep xa1_ hz212
            replace xb1_ := cell_keep xb1_ hz212
            replace xa2_ := cell_keep xa2_ hz212
            replace xb2_ := cell_keep xb2_ hz212
            replace xa4_ := cell_keep xa4_ hz212
            replace xb4_ := cell_keep xb4_ hz212
            clear hc211 hz212
            go_wp2_with fail
            have hc213 := implIsStatic t4b _ _ _ (HA4b.out.below hq212) (by have := cnt_shp4 (t := t4b) EQ156.out; omega)
            rw [EQ169.out] at hc213
            refine hc213.mono ?_
            rintro e z214 ⟨rfl, hz214⟩
            have hq214 := below_trans hq212 hz214
            replace xa1_ := cell_keep xa1_ hz214
            replace xb1_ := cell_keep xb1_ hz214
            replace xa2_ := cell_keep xa2_ hz214
            replace xb2_ := cell_keep xb2_ hz214
            replace xa4_ := cell_keep xa4_ hz214
            replace xb4_ := cell_keep xb4_ hz214
            clear hc213 hz214
            rcases Bool.eq_false_or_eq_true (subOf 1 (.mk 1 []) t4a) with hq222 | hq222
            · have EQ222 := hid hq222
              clear hq222
              have EQ224 := hid (show subOf 1 t4a (.mk 1 []) = true from sub_unk2 t4a EQ150.out)
              have EQ227 := hid (show subOf (-1) (.mk 1 []) t4a = true from sub_unk3 t4a EQ150.out)
              have EQ232 := hid (show tyEq (.mk 1 []) t4a = true from (by rw [← sub_unk1 t4a EQ150.out]; exact EQ222.out))
              go_wp2_with fail
              refine wp_region_held_drew (S := (fun w' => Below (z214).heap.size (z214) w' ∧ w'.cell? ⟨z4.heap.size, 0, none⟩ = some (.int .i64 k4a) ∧ w'.cell? ⟨z4.heap.size, 1, none⟩ = some (.slice a4a n4a c4a) ∧ w'.cell? ⟨z4.heap.size + 1, 0, none⟩ = some (.int .i64 k4b) ∧ w'.cell? ⟨z4.heap.size + 1, 1, none⟩ = some (.slice a4b n4b c4b) ∧ w'.cell? ⟨z143.heap.size, 0, none⟩ = some (.int .i64 1) ∧ w'.cell? ⟨z143.heap.size, 1, none⟩ = some (.slice none 0 0))) (by kernel_rfl) ?_ (fun hS0 => ?_)
              · (refine (fun hB => ⟨hB, cell_keep xa1_ hB, cell_keep xb1_ hB, cell_keep xa2_ hB, cell_keep xb2_ hB, cell_keep xa4_ hB, cell_keep xb4_ hB⟩ : Below (z214).heap.size (z214) _ → _) ?_; exact below_drew _)
              refine regTake (i := 0) (v := ?vg223_0) rfl (by kernel_rfl) (by kernel_rfl) (by kernel_rfl) (fun _ _ _ h => h) (Or.inl ⟨by rfl, ?hyg223_0⟩) (by assumption) ?_
              case hyg223_0 => (intro w hSw; (try dsimp only at hSw); go_simp; (try with_reducible rfl))
              try simp only [Act.put, List.setIfInBounds_toArray, List.set_cons_zero, List.set_cons_succ]
              refine regTake (i := 1) (v := ?vg223_1) rfl (by kernel_rfl) (by kernel_rfl) (by kernel_rfl) (fun _ _ _ h => h) (Or.inl ⟨by rfl, ?hyg223_1⟩) (by assumption) ?_
              case hyg223_1 => (intro w hSw; (try dsimp only at hSw); go_simp; (try with_reducible rfl))
              try simp only [Act.put, List.setIfInBounds_toArray, List.set_cons_zero, List.set_cons_succ]
              refine wpAnyH_ready (rs := [2]) (by kernel_rfl) (by simp) ?_
              refine regCons rfl (fun K hK => ?_)
              go_simp
              have hc225 := implSubPositive t4a (.mk 1 []) _ _ _ _ _ (HA4a.out.below (below_trans hq214 (below_drew (z214)))) (HAL145.out.below (below_trans hq214 (below_drew (z214))))
              rw [EQ224.out] at hc225
              refine hc225.mono ?_
              rintro e yg223_0 ⟨rfl, hyg223_0⟩
              have hkg223_0 := below_trans (below_drew (z214)) hyg223_0
              clear hc225
              refine hK.out _ _ ?_ (fun hS1 => ?_)
              · (refine (fun hB => ⟨hB, cell_keep xa1_ hB, cell_keep xb1_ hB, cell_keep xa2_ hB, cell_keep xb2_ hB, cell_keep xa4_ hB, cell_keep xb4_ hB⟩ : Below (z214).heap.size (z214) _ → _) ?_; exact hkg223_0)
              clear hK K hS0
              try simp only [Act.put, List.setIfInBounds_toArray, List.set_cons_zero, List.set_cons_succ]
              refine regTake (i := 3) (v := ?vg223_3) rfl (by kernel_rfl) (by kernel_rfl) (by kernel_rfl) (fun _ _ _ h => h) (Or.inl ⟨by rfl, ?hyg223_3⟩) (by assumption) ?_
              case hyg223_3 => (intro w hSw; (try dsimp only at hSw); go_simp; (try with_reducible rfl))
              try simp only [Act.put, List.setIfInBounds_toArray, List.set_cons_zero, List.set_cons_succ]
              refine regTake (i := 4) (v := ?vg223_4) rfl (by kernel_rfl) (by kernel_rfl) (by kernel_rfl) (fun _ _ _ h => h) (Or.inl ⟨by rfl, ?hyg223_4⟩) (by assumption) ?_
              case hyg223_4 => (intro w hSw; (try dsimp only at hSw); go_simp; (try with_reducible rfl))
              try simp only [Act.put, List.setIfInBounds_toArray, List.set_cons_zero, List.set_cons_succ]
              refine regTake (i := 5) (v := ?vg223_5) rfl (by kernel_rfl) (by kernel_rfl) (by kernel_rfl) (fun _ _ _ h => h) (Or.inl ⟨by rfl, ?hyg223_5⟩) (by assumption) ?_
              case hyg223_5 => (intro w hSw; (try dsimp only at hSw); go_simp; (try with_reducible rfl))
              try simp only [Act.put, List.setIfInBounds_toArray, List.set_cons_zero, List.set_cons_succ]
              refine wpAnyH_ready (rs := [6]) (by kernel_rfl) (by simp) ?_
              refine regCons rfl (fun K hK => ?_)
              go_simp
              have hc228 := implSubNegative (.mk 1 []) t4a _ _ _ _ _ (HAL145.out.below (below_trans hq214 (hkg223_0))) (HA4a.out.below (below_trans hq214 (hkg223_0)))
              rw [EQ227.out] at hc228
              refine hc228.mono ?_
              rintro e yg223_1 ⟨rfl, hyg223_1⟩
              have hkg223_1 := below_trans (hkg223_0) hyg223_1
              clear hc228
              refine hK.out _ _ ?_ (fun hS2 => ?_)
              · (refine (fun hB => ⟨hB, cell_keep xa1_ hB, cell_keep xb1_ hB, cell_keep xa2_ hB, cell_keep xb2_ hB, cell_keep xa4_ hB, cell_keep xb4_ hB⟩ : Below (z214).heap.size (z214) _ → _) ?_; exact hkg223_1)
              clear hK K hS1
              try simp only [Act.put, List.setIfInBounds_toArray, List.set_cons_zero, List.set_cons_succ]
              refine regTake (i := 7) (v := .bool true) rfl (by kernel_rfl) (by kernel_rfl) (by kernel_rfl) (fun _ _ _ h => h) (Or.inl ⟨by rfl, ?hyg223_7⟩) (by assumption) ?_
              case hyg223_7 => (intro w hSw; (try dsimp only at hSw); go_simp; (try with_reducible rfl))
              try simp only [Act.put, List.setIfInBounds_toArray, List.set_cons_zero, List.set_cons_succ]
              refine regTake (i := 8) (v := ?vg223_8) rfl (by kernel_rfl) (by kernel_rfl) (by kernel_rfl) (fun _ _ _ h => h) (Or.inl ⟨by rfl, ?hyg223_8⟩) (by assumption) ?_
              case hyg223_8 => (intro w hSw; (try dsimp only at hSw); go_simp; (try with_reducible rfl))
              try simp only [Act.put, List.setIfInBounds_toArray, List.set_cons_zero, List.set_cons_succ]
              refine regTake (i := 9) (v := ?vg223_9) rfl (by kernel_rfl) (by kernel_rfl) (by kernel_rfl) (fun _ _ _ h => h) (Or.inl ⟨by rfl, ?hyg223_9⟩) (by assumption) ?_
              case hyg223_9 => (intro w hSw; (try dsimp only at hSw); go_simp; (try with_reducible rfl))
              try simp only [Act.put, List.setIfInBounds_toArray, List.set_cons_zero, List.set_cons_succ]
              refine regTake (i := 10) (v := ?vg223_10) rfl (by kernel_rfl) (by kernel_rfl) (by kernel_rfl) (fun _ _ _ h => h) (Or.inl ⟨by rfl, ?hyg223_10⟩) (by assumption) ?_
              case hyg223_10 => (intro w hSw; (try dsimp only at hSw); go_simp; (try with_reducible rfl))
              try simp only [Act.put, List.setIfInBounds_toArray, List.set_cons_zero, List.set_cons_succ]
              refine regTake (i := 12) (v := ?vg223_12) rfl (by kernel_rfl) (by kernel_rfl) (by kernel_rfl) (fun _ _ _ h => h) (Or.inl ⟨by rfl, ?hyg223_12⟩) (by assumption) ?_
              case hyg223_12 => (intro w hSw; (try dsimp only at hSw); go_simp; (try with_reducible rfl))
              try simp only [Act.put, List.setIfInBounds_toArray, List.set_cons_zero, List.set_cons_succ]
              refine regTake (i := 13) (v := ?vg223_13) rfl (by kernel_rfl) (by kernel_rfl) (by kernel_rfl) (fun _ _ _ h => h) (Or.inl ⟨by rfl, ?hyg223_13⟩) (by assumption) ?_
              case hyg223_13 => (intro w hSw; (try dsimp only at hSw); go_simp; (try with_reducible rfl))
              try simp only [Act.put, List.setIfInBounds_toArray, List.set_cons_zero, List.set_cons_succ]
              refine wpAnyH_ready (rs := [11]) (by kernel_rfl) (by simp) ?_
              refine regCons rfl (fun K hK => ?_)
              go_simp
              have hc230 := implSubPositive (.mk 1 []) t4a _ _ _ _ _ (HAL145.out.below (below_trans hq214 (hkg223_1))) (HA4a.out.below (below_trans hq214 (hkg223_1)))
              rw [EQ222.out] at hc230
              refine hc230.mono ?_
              rintro e yg223_2 ⟨rfl, hyg223_2⟩
              have hkg223_2 := below_trans (hkg223_1) hyg223_2
              clear hc230
              refine hK.out _ _ ?_ (fun hS3 => ?_)
              · (refine (fun hB => ⟨hB, cell_keep xa1_ hB, cell_keep xb1_ hB, cell_keep xa2_ hB, cell_keep xb2_ hB, cell_keep xa4_ hB, cell_keep xb4_ hB⟩ : Below (z214).heap.size (z214) _ → _) ?_; exact hkg223_2)
              clear hK K hS2
              try simp only [Act.put, List.setIfInBounds_toArray, List.set_cons_zero, List.set_cons_succ]
              refine wpAnyH_ready (rs := [14]) (by kernel_rfl) (by simp) ?_
              refine regCons rfl (fun K hK => ?_)
              go_simp
              have hc233 := implTypeSame (.mk 1 []) t4a _ _ _ _ _ (by have := HCL145.out; omega) (HAL145.out.below (below_trans hq214 (hkg223_2))) (HA4a.out.below (below_trans hq214 (hkg223_2))) (fun x hx => (HRL145.out x hx).below (below_trans hq214 (hkg223_2))) (fun x hx => (HR4a.out x hx).below (below_trans hq214 (hkg223_2)))
              rw [EQ232.out] at hc233
              refine hc233.mono ?_
              rintro e yg223_3 ⟨rfl, hyg223_3⟩
              have hkg223_3 := below_trans (hkg223_2) hyg223_3
              clear hc233
              refine hK.out _ _ ?_ (fun hS4 => ?_)
              · (refine (fun hB => ⟨hB, cell_keep xa1_ hB, cell_keep xb1_ hB, cell_keep xa2_ hB, cell_keep xb2_ hB, cell_keep xa4_ hB, cell_keep xb4_ hB⟩ : Below (z214).heap.size (z214) _ → _) ?_; exact hkg223_3)
              clear hK K hS3
              try simp only [Act.put, List.setIfInBounds_toArray, List.set_cons_zero, List.set_cons_succ]
              refine regTake (i := 15) (v := ?vg223_15) rfl (by kernel_rfl) (by kernel_rfl) (by kernel_rfl) (fun _ _ _ h => h) (Or.inl ⟨by rfl, ?hyg223_15⟩) (by assumption) ?_
              case hyg223_15 => (intro w hSw; (try dsimp only at hSw); go_simp; (try with_reducible rfl))
              try simp only [Act.put, List.setIfInBounds_toArray, List.set_cons_zero, List.set_cons_succ]
              refine regTake (i := 16) (v := .bool true) rfl (by kernel_rfl) (by kernel_rfl) (by kernel_rfl) (fun _ _ _ h => h) (Or.inl ⟨by rfl, ?hyg223_16⟩) (by assumption) ?_
              case hyg223_16 => (intro w hSw; (try dsimp only at hSw); go_simp; (try with_reducible rfl))
              try simp only [Act.put, List.setIfInBounds_toArray, List.set_cons_zero, List.set_cons_succ]
              refine regTake (i := 17) (v := ?vg223_17) rfl (by kernel_rfl) (by kernel_rfl) (by kernel_rfl) (fun _ _ _ h => h) (Or.inl ⟨by rfl, ?hyg223_17⟩) (by assumption) ?_
              case hyg223_17 => (intro w hSw; (try dsimp only at hSw); go_simp; (try with_reducible rfl))
              try simp only [Act.put, List.setIfInBounds_toArray, List.set_cons_zero, List.set_cons_succ]
              refine wpAnyH_done (by kernel_rfl) ?_ _
              have hlg223_ := below_trans hq214 hkg223_3
              replace xa1_ := cell_keep xa1_ hkg223_3
              replace xb1_ := cell_keep xb1_ hkg223_3
              replace xa2_ := cell_keep xa2_ hkg223_3
              replace xb2_ := cell_keep xb2_ hkg223_3
              replace xa4_ := cell_keep xa4_ hkg223_3
              replace xb4_ := cell_keep xb4_ hkg223_3
              go_wp2_with fail
              go_ret
              exact ⟨rfl, below_trans HBL.out hlg223_⟩
            · have EQ222 := hid hq222
              clear hq222
              have EQ236 := hid (show subOf 1 t4a (.mk 1 []) = true from sub_unk2 t4a EQ150.out)
              have EQ239 := hid (show subOf (-1) (.mk 1 []) t4a = true from sub_unk3 t4a EQ150.out)
              have EQ244 := hid (show tyEq (.mk 1 []) t4a = false from (by rw [← sub_unk1 t4a EQ150.out]; exact EQ222.out))
              go_wp2_with fail
              refine wp_region_held_drew (S := (fun w' => Below (z214).heap.size (z214) w' ∧ w'.cell? ⟨z4.heap.size, 0, none⟩ = some (.int .i64 k4a) ∧ w'.cell? ⟨z4.heap.size, 1, none⟩ = some (.slice a4a n4a c4a) ∧ w'.cell? ⟨z4.heap.size + 1, 0, none⟩ = some (.int .i64 k4b) ∧ w'.cell? ⟨z4.heap.size + 1, 1, none⟩ = some (.slice a4b n4b c4b) ∧ w'.cell? ⟨z143.heap.size, 0, none⟩ = some (.int .i64 1) ∧ w'.cell? ⟨z143.heap.size, 1, none⟩ = some (.slice none 0 0))) (by kernel_rfl) ?_ (fun hS0 => ?_)
              · (refine (fun hB => ⟨hB, cell_keep xa1_ hB, cell_keep xb1_ hB, cell_keep xa2_ hB, cell_keep xb2_ hB, cell_keep xa4_ hB, cell_keep xb4_ hB⟩ : Below (z214).heap.size (z214) _ → _) ?_; exact below_drew _)
              refine regTake (i := 0) (v := ?vg235_0) rfl (by kernel_rfl) (by kernel_rfl) (by kernel_rfl) (fun _ _ _ h => h) (Or.inl ⟨by rfl, ?hyg235_0⟩) (by assumption) ?_
              case hyg235_0 => (intro w hSw; (try dsimp only at hSw); go_simp; (try with_reducible rfl))
              try simp only [Act.put, List.setIfInBounds_toArray, List.set_cons_zero, List.set_cons_succ]
              refine regTake (i := 1) (v := ?vg235_1) rfl (by kernel_rfl) (by kernel_rfl) (by kernel_rfl) (fun _ _ _ h => h) (Or.inl ⟨by rfl, ?hyg235_1⟩) (by assumption) ?_
              case hyg235_1 => (intro w hSw; (try dsimp only at hSw); go_simp; (try with_reducible rfl))
              try simp only [Act.put, List.setIfInBounds_toArray, List.set_cons_zero, List.set_cons_succ]
              refine wpAnyH_ready (rs := [2]) (by kernel_rfl) (by simp) ?_
              refine regCons rfl (fun K hK => ?_)
              go_simp
              have hc237 := implSubPositive t4a (.mk 1 []) _ _ _ _ _ (HA4a.out.below (below_trans hq214 (below_drew (z214)))) (HAL145.out.below (below_trans hq214 (below_drew (z214))))
              rw [EQ236.out] at hc237
              refine hc237.mono ?_
              rintro e yg235_0 ⟨rfl, hyg235_0⟩
              have hkg235_0 := below_trans (below_drew (z214)) hyg235_0
              clear hc237
              refine hK.out _ _ ?_ (fun hS1 => ?_)
              · (refine (fun hB => ⟨hB, cell_keep xa1_ hB, cell_keep xb1_ hB, cell_keep xa2_ hB, cell_keep xb2_ hB, cell_keep xa4_ hB, cell_keep xb4_ hB⟩ : Below (z214).heap.size (z214) _ → _) ?_; exact hkg235_0)
              clear hK K hS0
              try simp only [Act.put, List.setIfInBounds_toArray, List.set_cons_zero, List.set_cons_succ]
              refine regTake (i := 3) (v := ?vg235_3) rfl (by kernel_rfl) (by kernel_rfl) (by kernel_rfl) (fun _ _ _ h => h) (Or.inl ⟨by rfl, ?hyg235_3⟩) (by assumption) ?_
              case hyg235_3 => (intro w hSw; (try dsimp only at hSw); go_simp; (try with_reducible rfl))
              try simp only [Act.put, List.setIfInBounds_toArray, List.set_cons_zero, List.set_cons_succ]
              refine regTake (i := 4) (v := ?vg235_4) rfl (by kernel_rfl) (by kernel_rfl) (by kernel_rfl) (fun _ _ _ h => h) (Or.inl ⟨by rfl, ?hyg235_4⟩) (by assumption) ?_
              case hyg235_4 => (intro w hSw; (try dsimp only at hSw); go_simp; (try with_reducible rfl))
              try simp only [Act.put, List.setIfInBounds_toArray, List.set_cons_zero, List.set_cons_succ]
              refine regTake (i := 5) (v := ?vg235_5) rfl (by kernel_rfl) (by kernel_rfl) (by kernel_rfl) (fun _ _ _ h => h) (Or.inl ⟨by rfl, ?hyg235_5⟩) (by assumption) ?_
              case hyg235_5 => (intro w hSw; (try dsimp only at hSw); go_simp; (try with_reducible rfl))
              try simp only [Act.put, List.setIfInBounds_toArray, List.set_cons_zero, List.set_cons_succ]
              refine wpAnyH_ready (rs := [6]) (by kernel_rfl) (by simp) ?_
              refine regCons rfl (fun K hK => ?_)
              go_simp
              have hc240 := implSubNegative (.mk 1 []) t4a _ _ _ _ _ (HAL145.out.below (below_trans hq214 (hkg235_0))) (HA4a.out.below (below_trans hq214 (hkg235_0)))
              rw [EQ239.out] at hc240
              refine hc240.mono ?_
              rintro e yg235_1 ⟨rfl, hyg235_1⟩
              have hkg235_1 := below_trans (hkg235_0) hyg235_1
              clear hc240
              refine hK.out _ _ ?_ (fun hS2 => ?_)
              · (refine (fun hB => ⟨hB, cell_keep xa1_ hB, cell_keep xb1_ hB, cell_keep xa2_ hB, cell_keep xb2_ hB, cell_keep xa4_ hB, cell_keep xb4_ hB⟩ : Below (z214).heap.size (z214) _ → _) ?_; exact hkg235_1)
              clear hK K hS1
              try simp only [Act.put, List.setIfInBounds_toArray, List.set_cons_zero, List.set_cons_succ]
              refine regTake (i := 7) (v := .bool true) rfl (by kernel_rfl) (by kernel_rfl) (by kernel_rfl) (fun _ _ _ h => h) (Or.inl ⟨by rfl, ?hyg235_7⟩) (by assumption) ?_
              case hyg235_7 => (intro w hSw; (try dsimp only at hSw); go_simp; (try with_reducible rfl))
              try simp only [Act.put, List.setIfInBounds_toArray, List.set_cons_zero, List.set_cons_succ]
              refine regTake (i := 8) (v := ?vg235_8) rfl (by kernel_rfl) (by kernel_rfl) (by kernel_rfl) (fun _ _ _ h => h) (Or.inl ⟨by rfl, ?hyg235_8⟩) (by assumption) ?_
              case hyg235_8 => (intro w hSw; (try dsimp only at hSw); go_simp; (try with_reducible rfl))
              try simp only [Act.put, List.setIfInBounds_toArray, List.set_cons_zero, List.set_cons_succ]
              refine regTake (i := 9) (v := ?vg235_9) rfl (by kernel_rfl) (by kernel_rfl) (by kernel_rfl) (fun _ _ _ h => h) (Or.inl ⟨by rfl, ?hyg235_9⟩) (by assumption) ?_
              case hyg235_9 => (intro w hSw; (try dsimp only at hSw); go_simp; (try with_reducible rfl))
              try simp only [Act.put, List.setIfInBounds_toArray, List.set_cons_zero, List.set_cons_succ]
              refine regTake (i := 10) (v := ?vg235_10) rfl (by kernel_rfl) (by kernel_rfl) (by kernel_rfl) (fun _ _ _ h => h) (Or.inl ⟨by rfl, ?hyg235_10⟩) (by assumption) ?_
              case hyg235_10 => (intro w hSw; (try dsimp only at hSw); go_simp; (try with_reducible rfl))
              try simp only [Act.put, List.setIfInBounds_toArray, List.set_cons_zero, List.set_cons_succ]
              refine regTake (i := 12) (v := ?vg235_12) rfl (by kernel_rfl) (by kernel_rfl) (by kernel_rfl) (fun _ _ _ h => h) (Or.inl ⟨by rfl, ?hyg235_12⟩) (by assumption) ?_
              case hyg235_12 => (intro w hSw; (try dsimp only at hSw); go_simp; (try with_reducible rfl))
              try simp only [Act.put, List.setIfInBounds_toArray, List.set_cons_zero, List.set_cons_succ]
              refine regTake (i := 13) (v := ?vg235_13) rfl (by kernel_rfl) (by kernel_rfl) (by kernel_rfl) (fun _ _ _ h => h) (Or.inl ⟨by rfl, ?hyg235_13⟩) (by assumption) ?_
              case hyg235_13 => (intro w hSw; (try dsimp only at hSw); go_simp; (try with_reducible rfl))
              try simp only [Act.put, List.setIfInBounds_toArray, List.set_cons_zero, List.set_cons_succ]
              refine wpAnyH_ready (rs := [11]) (by kernel_rfl) (by simp) ?_
              refine regCons rfl (fun K hK => ?_)
              go_simp
              have hc242 := implSubPositive (.mk 1 []) t4a _ _ _ _ _ (HAL145.out.below (below_trans hq214 (hkg235_1))) (HA4a.out.below (below_trans hq214 (hkg235_1)))
              rw [EQ222.out] at hc242
              refine hc242.mono ?_
              rintro e yg235_2 ⟨rfl, hyg235_2⟩
              have hkg235_2 := below_trans (hkg235_1) hyg235_2
              clear hc242
              refine hK.out _ _ ?_ (fun hS3 => ?_)
              · (refine (fun hB => ⟨hB, cell_keep xa1_ hB, cell_keep xb1_ hB, cell_keep xa2_ hB, cell_keep xb2_ hB, cell_keep xa4_ hB, cell_keep xb4_ hB⟩ : Below (z214).heap.size (z214) _ → _) ?_; exact hkg235_2)
              clear hK K hS2
              try simp only [Act.put, List.setIfInBounds_toArray, List.set_cons_zero, List.set_cons_succ]
              refine wpAnyH_ready (rs := [14]) (by kernel_rfl) (by simp) ?_
              refine regCons rfl (fun K hK => ?_)
              go_simp
              have hc245 := implTypeSame (.mk 1 []) t4a _ _ _ _ _ (by have := HCL145.out; omega) (HAL145.out.below (below_trans hq214 (hkg235_2))) (HA4a.out.below (below_trans hq214 (hkg235_2))) (fun x hx => (HRL145.out x hx).below (below_trans hq214 (hkg235_2))) (fun x hx => (HR4a.out x hx).below (below_trans hq214 (hkg235_2)))
              rw [EQ244.out] at hc245
              refine hc245.mono ?_
              rintro e yg235_3 ⟨rfl, hyg235_3⟩
              have hkg235_3 := below_trans (hkg235_2) hyg235_3
              clear hc245
              refine hK.out _ _ ?_ (fun hS4 => ?_)
              · (refine (fun hB => ⟨hB, cell_keep xa1_ hB, cell_keep xb1_ hB, cell_keep xa2_ hB, cell_keep xb2_ hB, cell_keep xa4_ hB, cell_keep xb4_ hB⟩ : Below (z214).heap.size (z214) _ → _) ?_; exact hkg235_3)
              clear hK K hS3
              try simp only [Act.put, List.setIfInBounds_toArray, List.set_cons_zero, List.set_cons_succ]
              refine regTake (i := 15) (v := ?vg235_15) rfl (by kernel_rfl) (by kernel_rfl) (by kernel_rfl) (fun _ _ _ h => h) (Or.inl ⟨by rfl, ?hyg235_15⟩) (by assumption) ?_
              case hyg235_15 => (intro w hSw; (try dsimp only at hSw); go_simp; (try with_reducible rfl))
              try simp only [Act.put, List.setIfInBounds_toArray, List.set_cons_zero, List.set_cons_succ]
              refine regTake (i := 16) (v := .bool true) rfl (by kernel_rfl) (by kernel_rfl) (by kernel_rfl) (fun _ _ _ h => h) (Or.inl ⟨by rfl, ?hyg235_16⟩) (by assumption) ?_
              case hyg235_16 => (intro w hSw; (try dsimp only at hSw); go_simp; (try with_reducible rfl))
              try simp only [Act.put, List.setIfInBounds_toArray, List.set_cons_zero, List.set_cons_succ]
              refine regTake (i := 17) (v := ?vg235_17) rfl (by kernel_rfl) (by kernel_rfl) (by kernel_rfl) (fun _ _ _ h => h) (Or.inl ⟨by rfl, ?hyg235_17⟩) (by assumption) ?_
              case hyg235_17 => (intro w hSw; (try dsimp only at hSw); go_simp; (try with_reducible rfl))
              try simp only [Act.put, List.setIfInBounds_toArray, List.set_cons_zero, List.set_cons_succ]
              refine wpAnyH_done (by kernel_rfl) ?_ _
              have hlg235_ := below_trans hq214 hkg235_3
              replace xa1_ := cell_keep xa1_ hkg235_3
              replace xb1_ := cell_keep xb1_ hkg235_3
              replace xa2_ := cell_keep xa2_ hkg235_3
              replace xb2_ := cell_keep xb2_ hkg235_3
              replace xa4_ := cell_keep xa4_ hkg235_3
              replace xb4_ := cell_keep xb4_ hkg235_3
              go_wp2_with fail
              go_ret
              exact ⟨rfl, below_trans HBL.out hlg235_⟩
        · have EQ165 := hid hq165
          clear hq165
          go_wp2_with fail
          have hc248 := implIsStatic t4a _ _ _ (HA4a.out.below hq163) (by have := cnt_shp4 (t := t4a) EQ150.out; omega)
          rw [EQ165.out] at hc248
          refine hc248.mono ?_
          rintro e z249 ⟨rfl, hz249⟩
          have hq249 := below_trans hq163 hz249
          replace xa1_ := cell_keep xa1_ hz249
          replace xb1_ := cell_keep xb1_ hz249
          replace xa2_ := cell_keep xa2_ hz249
          replace xb2_ := cell_keep xb2_ hz249
          replace xa4_ := cell_keep xa4_ hz249
          replace xb4_ := cell_keep xb4_ hz249
          clear hc248 hz249
          rcases Bool.eq_false_or_eq_true (subOf 1 (.mk 1 []) t4a) with hq257 | hq257
          · have EQ257 := hid hq257
            clear hq257
            have EQ259 := hid (show subOf 1 t4a (.mk 1 []) = true from sub_unk2 t4a EQ150.out)
            have EQ262 := hid (show subOf (-1) (.mk 1 []) t4a = true from sub_unk3 t4a EQ150.out)
            have EQ267 := hid (show tyEq (.mk 1 []) t4a = true from (by rw [← sub_unk1 t4a EQ150.out]; exact EQ257.out))
            go_wp2_with fail
            refine wp_region_held_drew (S := (fun w' => Below (z249).heap.size (z249) w' ∧ w'.cell? ⟨z4.heap.size, 0, none⟩ = some (.int .i64 k4a) ∧ w'.cell? ⟨z4.heap.size, 1, none⟩ = some (.slice a4a n4a c4a) ∧ w'.cell? ⟨z4.heap.size + 1, 0, none⟩ = some (.int .i64 k4b) ∧ w'.cell? ⟨z4.heap.size + 1, 1, none⟩ = some (.slice a4b n4b c4b) ∧ w'.cell? ⟨z143.heap.size, 0, none⟩ = some (.int .i64 1) ∧ w'.cell? ⟨z143.heap.size, 1, none⟩ = some (.slice none 0 0))) (by kernel_rfl) ?_ (fun hS0 => ?_)
            · (refine (fun hB => ⟨hB, cell_keep xa1_ hB, cell_keep xb1_ hB, cell_keep xa2_ hB, cell_keep xb2_ hB, cell_keep xa4_ hB, cell_keep xb4_ hB⟩ : Below (z249).heap.size (z249) _ → _) ?_; exact below_drew _)
            refine regTake (i := 0) (v := ?vg258_0) rfl (by kernel_rfl) (by kernel_rfl) (by kernel_rfl) (fun _ _ _ h => h) (Or.inl ⟨by rfl, ?hyg258_0⟩) (by assumption) ?_
            case hyg258_0 => (intro w hSw; (try dsimp only at hSw); go_simp; (try with_reducible rfl))
            try simp only [Act.put, List.setIfInBounds_toArray, List.set_cons_zero, List.set_cons_succ]
            refine regTake (i := 1) (v := ?vg258_1) rfl (by kernel_rfl) (by kernel_rfl) (by kernel_rfl) (fun _ _ _ h => h) (Or.inl ⟨by rfl, ?hyg258_1⟩) (by assumption) ?_
            case hyg258_1 => (intro w hSw; (try dsimp only at hSw); go_simp; (try with_reducible rfl))
            try simp only [Act.put, List.setIfInBounds_toArray, List.set_cons_zero, List.set_cons_succ]
            refine wpAnyH_ready (rs := [2]) (by kernel_rfl) (by simp) ?_
            refine regCons rfl (fun K hK => ?_)
            go_simp
            have hc260 := implSubPositive t4a (.mk 1 []) _ _ _ _ _ (HA4a.out.below (below_trans hq249 (below_drew (z249)))) (HAL145.out.below (below_trans hq249 (below_drew (z249))))
            rw [EQ259.out] at hc260
            refine hc260.mono ?_
            rintro e yg258_0 ⟨rfl, hyg258_0⟩
            have hkg258_0 := below_trans (below_drew (z249)) hyg258_0
            clear hc260
            refine hK.out _ _ ?_ (fun hS1 => ?_)
            · (refine (fun hB => ⟨hB, cell_keep xa1_ hB, cell_keep xb1_ hB, cell_keep xa2_ hB, cell_keep xb2_ hB, cell_keep xa4_ hB, cell_keep xb4_ hB⟩ : Below (z249).heap.size (z249) _ → _) ?_; exact hkg258_0)
            clear hK K hS0
            try simp only [Act.put, List.setIfInBounds_toArray, List.set_cons_zero, List.set_cons_succ]
            refine regTake (i := 3) (v := ?vg258_3) rfl (by kernel_rfl) (by kernel_rfl) (by kernel_rfl) (fun _ _ _ h => h) (Or.inl ⟨by rfl, ?hyg258_3⟩) (by assumption) ?_
            case hyg258_3 => (intro w hSw; (try dsimp only at hSw); go_simp; (try with_reducible rfl))
            try simp only [Act.put, List.setIfInBounds_toArray, List.set_cons_zero, List.set_cons_succ]
            refine regTake (i := 4) (v := ?vg258_4) rfl (by kernel_rfl) (by kernel_rfl) (by kernel_rfl) (fun _ _ _ h => h) (Or.inl ⟨by rfl, ?hyg258_4⟩) (by assumption) ?_
            case hyg258_4 => (intro w hSw; (try dsimp only at hSw); go_simp; (try with_reducible rfl))
            try simp only [Act.put, List.setIfInBounds_toArray, List.set_cons_zero, List.set_cons_succ]
            refine regTake (i := 5) (v := ?vg258_5) rfl (by kernel_rfl) (by kernel_rfl) (by kernel_rfl) (fun _ _ _ h => h) (Or.inl ⟨by rfl, ?hyg258_5⟩) (by assumption) ?_
            case hyg258_5 => (intro w hSw; (try dsimp only at hSw); go_simp; (try with_reducible rfl))
            try simp only [Act.put, List.setIfInBounds_toArray, List.set_cons_zero, List.set_cons_succ]
            refine wpAnyH_ready (rs := [6]) (by kernel_rfl) (by simp) ?_
            refine regCons rfl (fun K hK => ?_)
            go_simp
            have hc263 := implSubNegative (.mk 1 []) t4a _ _ _ _ _ (HAL145.out.below (below_trans hq249 (hkg258_0))) (HA4a.out.below (below_trans hq249 (hkg258_0)))
            rw [EQ262.out] at hc263
            refine hc263.mono ?_
            rintro e yg258_1 ⟨rfl, hyg258_1⟩
            have hkg258_1 := below_trans (hkg258_0) hyg258_1
            clear hc263
            refine hK.out _ _ ?_ (fun hS2 => ?_)
            · (refine (fun hB => ⟨hB, cell_keep xa1_ hB, cell_keep xb1_ hB, cell_keep xa2_ hB, cell_keep xb2_ hB, cell_keep xa4_ hB, cell_keep xb4_ hB⟩ : Below (z249).heap.size (z249) _ → _) ?_; exact hkg258_1)
            clear hK K hS1
            try simp only [Act.put, List.setIfInBounds_toArray, List.set_cons_zero, List.set_cons_succ]
            refine regTake (i := 7) (v := .bool true) rfl (by kernel_rfl) (by kernel_rfl) (by kernel_rfl) (fun _ _ _ h => h) (Or.inl ⟨by rfl, ?hyg258_7⟩) (by assumption) ?_
            case hyg258_7 => (intro w hSw; (try dsimp only at hSw); go_simp; (try with_reducible rfl))
            try simp only [Act.put, List.setIfInBounds_toArray, List.set_cons_zero, List.set_cons_succ]
            refine regTake (i := 8) (v := ?vg258_8) rfl (by kernel_rfl) (by kernel_rfl) (by kernel_rfl) (fun _ _ _ h => h) (Or.inl ⟨by rfl, ?hyg258_8⟩) (by assumption) ?_
            case hyg258_8 => (intro w hSw; (try dsimp only at hSw); go_simp; (try with_reducible rfl))
            try simp only [Act.put, List.setIfInBounds_toArray, List.set_cons_zero, List.set_cons_succ]
            refine regTake (i := 9) (v := ?vg258_9) rfl (by kernel_rfl) (by kernel_rfl) (by kernel_rfl) (fun _ _ _ h => h) (Or.inl ⟨by rfl, ?hyg258_9⟩) (by assumption) ?_
            case hyg258_9 => (intro w hSw; (try dsimp only at hSw); go_simp; (try with_reducible rfl))
            try simp only [Act.put, List.setIfInBounds_toArray, List.set_cons_zero, List.set_cons_succ]
            refine regTake (i := 10) (v := ?vg258_10) rfl (by kernel_rfl) (by kernel_rfl) (by kernel_rfl) (fun _ _ _ h => h) (Or.inl ⟨by rfl, ?hyg258_10⟩) (by assumption) ?_
            case hyg258_10 => (intro w hSw; (try dsimp only at hSw); go_simp; (try with_reducible rfl))
            try simp only [Act.put, List.setIfInBounds_toArray, List.set_cons_zero, List.set_cons_succ]
            refine regTake (i := 12) (v := ?vg258_12) rfl (by kernel_rfl) (by kernel_rfl) (by kernel_rfl) (fun _ _ _ h => h) (Or.inl ⟨by rfl, ?hyg258_12⟩) (by assumption) ?_
            case hyg258_12 => (intro w hSw; (try dsimp only at hSw); go_simp; (try with_reducible rfl))
            try simp only [Act.put, List.setIfInBounds_toArray, List.set_cons_zero, List.set_cons_succ]
            refine regTake (i := 13) (v := ?vg258_13) rfl (by kernel_rfl) (by kernel_rfl) (by kernel_rfl) (fun _ _ _ h => h) (Or.inl ⟨by rfl, ?hyg258_13⟩) (by assumption) ?_
            case hyg258_13 => (intro w hSw; (try dsimp only at hSw); go_simp; (try with_reducible rfl))
            try simp only [Act.put, List.setIfInBounds_toArray, List.set_cons_zero, List.set_cons_succ]
            refine wpAnyH_ready (rs := [11]) (by kernel_rfl) (by simp) ?_
            refine regCons rfl (fun K hK => ?_)
            go_simp
            have hc265 := implSubPositive (.mk 1 []) t4a _ _ _ _ _ (HAL145.out.below (below_trans hq249 (hkg258_1))) (HA4a.out.below (below_trans hq249 (hkg258_1)))
            rw [EQ257.out] at hc265
            refine hc265.mono ?_
            rintro e yg258_2 ⟨rfl, hyg258_2⟩
            have hkg258_2 := below_trans (hkg258_1) hyg258_2
            clear hc265
            refine hK.out _ _ ?_ (fun hS3 => ?_)
            · (refine (fun hB => ⟨hB, cell_keep xa1_ hB, cell_keep xb1_ hB, cell_keep xa2_ hB, cell_keep xb2_ hB, cell_keep xa4_ hB, cell_keep xb4_ hB⟩ : Below (z249).heap.size (z249) _ → _) ?_; exact hkg258_2)
            clear hK K hS2
            try simp only [Act.put, List.setIfInBounds_toArray, List.set_cons_zero, List.set_cons_succ]
            refine wpAnyH_ready (rs := [14]) (by kernel_rfl) (by simp) ?_
            refine regCons rfl (fun K hK => ?_)
            go_simp
            have hc268 := implTypeSame (.mk 1 []) t4a _ _ _ _ _ (by have := HCL145.out; omega) (HAL145.out.below (below_trans hq249 (hkg258_2))) (HA4a.out.below (below_trans hq249 (hkg258_2))) (fun x hx => (HRL145.out x hx).below (below_trans hq249 (hkg258_2))) (fun x hx => (HR4a.out x hx).below (below_trans hq249 (hkg258_2)))
            rw [EQ267.out] at hc268
            refine hc268.mono ?_
            rintro e yg258_3 ⟨rfl, hyg258_3⟩
            have hkg258_3 := below_trans (hkg258_2) hyg258_3
            clear hc268
            refine hK.out _ _ ?_ (fun hS4 => ?_)
            · (refine (fun hB => ⟨hB, cell_keep xa1_ hB, cell_keep xb1_ hB, cell_keep xa2_ hB, cell_keep xb2_ hB, cell_keep xa4_ hB, cell_keep xb4_ hB⟩ : Below (z249).heap.size (z249) _ → _) ?_; exact hkg258_3)
            clear hK K hS3
            try simp only [Act.put, List.setIfInBounds_toArray, List.set_cons_zero, List.set_cons_succ]
            refine regTake (i := 15) (v := ?vg258_15) rfl (by kernel_rfl) (by kernel_rfl) (by kernel_rfl) (fun _ _ _ h => h) (Or.inl ⟨by rfl, ?hyg258_15⟩) (by assumption) ?_
            case hyg258_15 => (intro w hSw; (try dsimp only at hSw); go_simp; (try with_reducible rfl))
            try simp only [Act.put, List.setIfInBounds_toArray, List.set_cons_zero, List.set_cons_succ]
            refine regTake (i := 16) (v := .bool true) rfl (by kernel_rfl) (by kernel_rfl) (by kernel_rfl) (fun _ _ _ h => h) (Or.inl ⟨by rfl, ?hyg258_16⟩) (by assumption) ?_
            case hyg258_16 => (intro w hSw; (try dsimp only at hSw); go_simp; (try with_reducible rfl))
            try simp only [Act.put, List.setIfInBounds_toArray, List.set_cons_zero, List.set_cons_succ]
            refine regTake (i := 17) (v := ?vg258_17) rfl (by kernel_rfl) (by kernel_rfl) (by kernel_rfl) (fun _ _ _ h => h) (Or.inl ⟨by rfl, ?hyg258_17⟩) (by assumption) ?_
            case hyg258_17 => (intro w hSw; (try dsimp only at hSw); go_simp; (try with_reducible rfl))
            try simp only [Act.put, List.setIfInBounds_toArray, List.set_cons_zero, List.set_cons_succ]
            refine wpAnyH_done (by kernel_rfl) ?_ _
            have hlg258_ := below_trans hq249 hkg258_3
            replace xa1_ := cell_keep xa1_ hkg258_3
            replace xb1_ := cell_keep xb1_ hkg258_3
            replace xa2_ := cell_keep xa2_ hkg258_3
            replace xb2_ := cell_keep xb2_ hkg258_3
            replace xa4_ := cell_keep xa4_ hkg258_3
            replace xb4_ := cell_keep xb4_ hkg258_3
            go_wp2_with fail
            go_ret
            exact ⟨rfl, below_trans HBL.out hlg258_⟩
          · have EQ257 := hid hq257
            clear hq257
            have EQ271 := hid (show subOf 1 t4a (.mk 1 []) = true from sub_unk2 t4a EQ150.out)
            have EQ274 := hid (show subOf (-1) (.mk 1 []) t4a = true from sub_unk3 t4a EQ150.out)
            have EQ279 := hid (show tyEq (.mk 1 []) t4a = false from (by rw [← sub_unk1 t4a EQ150.out]; exact EQ257.out))
            go_wp2_with fail
            refine wp_region_held_drew (S := (fun w' => Below (z249).heap.size (z249) w' ∧ w'.cell? ⟨z4.heap.size, 0, none⟩ = some (.int .i64 k4a) ∧ w'.cell? ⟨z4.heap.size, 1, none⟩ = some (.slice a4a n4a c4a) ∧ w'.cell? ⟨z4.heap.size + 1, 0, none⟩ = some (.int .i64 k4b) ∧ w'.cell? ⟨z4.heap.size + 1, 1, none⟩ = some (.slice a4b n4b c4b) ∧ w'.cell? ⟨z143.heap.size, 0, none⟩ = some (.int .i64 1) ∧ w'.cell? ⟨z143.heap.size, 1, none⟩ = some (.slice none 0 0))) (by kernel_rfl) ?_ (fun hS0 => ?_)
            · (refine (fun hB => ⟨hB, cell_keep xa1_ hB, cell_keep xb1_ hB, cell_keep xa2_ hB, cell_keep xb2_ hB, cell_keep xa4_ hB, cell_keep xb4_ hB⟩ : Below (z249).heap.size (z249) _ → _) ?_; exact below_drew _)
            refine regTake (i := 0) (v := ?vg270_0) rfl (by kernel_rfl) (by kernel_rfl) (by kernel_rfl) (fun _ _ _ h => h) (Or.inl ⟨by rfl, ?hyg270_0⟩) (by assumption) ?_
            case hyg270_0 => (intro w hSw; (try dsimp only at hSw); go_simp; (try with_reducible rfl))
            try simp only [Act.put, List.setIfInBounds_toArray, List.set_cons_zero, List.set_cons_succ]
            refine regTake (i := 1) (v := ?vg270_1) rfl (by kernel_rfl) (by kernel_rfl) (by kernel_rfl) (fun _ _ _ h => h) (Or.inl ⟨by rfl, ?hyg270_1⟩) (by assumption) ?_
            case hyg270_1 => (intro w hSw; (try dsimp only at hSw); go_simp; (try with_reducible rfl))
            try simp only [Act.put, List.setIfInBounds_toArray, List.set_cons_zero, List.set_cons_succ]
            refine wpAnyH_ready (rs := [2]) (by kernel_rfl) (by simp) ?_
            refine regCons rfl (fun K hK => ?_)
            go_simp
            have hc272 := implSubPositive t4a (.mk 1 []) _ _ _ _ _ (HA4a.out.below (below_trans hq249 (below_drew (z249)))) (HAL145.out.below (below_trans hq249 (below_drew (z249))))
            rw [EQ271.out] at hc272
            refine hc272.mono ?_
            rintro e yg270_0 ⟨rfl, hyg270_0⟩
            have hkg270_0 := below_trans (below_drew (z249)) hyg270_0
            clear hc272
            refine hK.out _ _ ?_ (fun hS1 => ?_)
            · (refine (fun hB => ⟨hB, cell_keep xa1_ hB, cell_keep xb1_ hB, cell_keep xa2_ hB, cell_keep xb2_ hB, cell_keep xa4_ hB, cell_keep xb4_ hB⟩ : Below (z249).heap.size (z249) _ → _) ?_; exact hkg270_0)
            clear hK K hS0
            try simp only [Act.put, List.setIfInBounds_toArray, List.set_cons_zero, List.set_cons_succ]
            refine regTake (i := 3) (v := ?vg270_3) rfl (by kernel_rfl) (by kernel_rfl) (by kernel_rfl) (fun _ _ _ h => h) (Or.inl ⟨by rfl, ?hyg270_3⟩) (by assumption) ?_
            case hyg270_3 => (intro w hSw; (try dsimp only at hSw); go_simp; (try with_reducible rfl))
            try simp only [Act.put, List.setIfInBounds_toArray, List.set_cons_zero, List.set_cons_succ]
            refine regTake (i := 4) (v := ?vg270_4) rfl (by kernel_rfl) (by kernel_rfl) (by kernel_rfl) (fun _ _ _ h => h) (Or.inl ⟨by rfl, ?hyg270_4⟩) (by assumption) ?_
            case hyg270_4 => (intro w hSw; (try dsimp only at hSw); go_simp; (try with_reducible rfl))
            try simp only [Act.put, List.setIfInBounds_toArray, List.set_cons_zero, List.set_cons_succ]
            refine regTake (i := 5) (v := ?vg270_5) rfl (by kernel_rfl) (by kernel_rfl) (by kernel_rfl) (fun _ _ _ h => h) (Or.inl ⟨by rfl, ?hyg270_5⟩) (by assumption) ?_
            case hyg270_5 => (intro w hSw; (try dsimp only at hSw); go_simp; (try with_reducible rfl))
            try simp only [Act.put, List.setIfInBounds_toArray, List.set_cons_zero, List.set_cons_succ]
            refine wpAnyH_ready (rs := [6]) (by kernel_rfl) (by simp) ?_
            refine regCons rfl (fun K hK => ?_)
            go_simp
            have hc275 := implSubNegative (.mk 1 []) t4a _ _ _ _ _ (HAL145.out.below (below_trans hq249 (hkg270_0))) (HA4a.out.below (below_trans hq249 (hkg270_0)))
            rw [EQ274.out] at hc275
            refine hc275.mono ?_
            rintro e yg270_1 ⟨rfl, hyg270_1⟩
            have hkg270_1 := below_trans (hkg270_0) hyg270_1
            clear hc275
            refine hK.out _ _ ?_ (fun hS2 => ?_)
            · (refine (fun hB => ⟨hB, cell_keep xa1_ hB, cell_keep xb1_ hB, cell_keep xa2_ hB, cell_keep xb2_ hB, cell_keep xa4_ hB, cell_keep xb4_ hB⟩ : Below (z249).heap.size (z249) _ → _) ?_; exact hkg270_1)
            clear hK K hS1
            try simp only [Act.put, List.setIfInBounds_toArray, List.set_cons_zero, List.set_cons_succ]
            refine regTake (i := 7) (v := .bool true) rfl (by kernel_rfl) (by kernel_rfl) (by kernel_rfl) (fun _ _ _ h => h) (Or.inl ⟨by rfl, ?hyg270_7⟩) (by assumption) ?_
            case hyg270_7 => (intro w hSw; (try dsimp only at hSw); go_simp; (try with_reducible rfl))
            try simp only [Act.put, List.setIfInBounds_toArray, List.set_cons_zero, List.set_cons_succ]
            refine regTake (i := 8) (v := ?vg270_8) rfl (by kernel_rfl) (by kernel_rfl) (by kernel_rfl) (fun _ _ _ h => h) (Or.inl ⟨by rfl, ?hyg270_8⟩) (by assumption) ?_
            case hyg270_8 => (intro w hSw; (try dsimp only at hSw); go_simp; (try with_reducible rfl))
            try simp only [Act.put, List.setIfInBounds_toArray, List.set_cons_zero, List.set_cons_succ]
            refine regTake (i := 9) (v := ?vg270_9) rfl (by kernel_rfl) (by kernel_rfl) (by kernel_rfl) (fun _ _ _ h => h) (Or.inl ⟨by rfl, ?hyg270_9⟩) (by assumption) ?_
            case hyg270_9 => (intro w hSw; (try dsimp only at hSw); go_simp; (try with_reducible rfl))
            try simp only [Act.put, List.setIfInBounds_toArray, List.set_cons_zero, List.set_cons_succ]
            refine regTake (i := 10) (v := ?vg270_10) rfl (by kernel_rfl) (by kernel_rfl) (by kernel_rfl) (fun _ _ _ h => h) (Or.inl ⟨by rfl, ?hyg270_10⟩) (by assumption) ?_
            case hyg270_10 => (intro w hSw; (try dsimp only at hSw); go_simp; (try with_reducible rfl))
            try simp only [Act.put, List.setIfInBounds_toArray, List.set_cons_zero, List.set_cons_succ]
            refine regTake (i := 12) (v := ?vg270_12) rfl (by kernel_rfl) (by kernel_rfl) (by kernel_rfl) (fun _ _ _ h => h) (Or.inl ⟨by rfl, ?hyg270_12⟩) (by assumption) ?_
            case hyg270_12 => (intro w hSw; (try dsimp only at hSw); go_simp; (try with_reducible rfl))
            try simp only [Act.put, List.setIfInBounds_toArray, List.set_cons_zero, List.set_cons_succ]
            refine regTake (i := 13) (v := ?vg270_13) rfl (by kernel_rfl) (by kernel_rfl) (by kernel_rfl) (fun _ _ _ h => h) (Or.inl ⟨by rfl, ?hyg270_13⟩) (by assumption) ?_
            case hyg270_13 => (intro w hSw; (try dsimp only at hSw); go_simp; (try with_reducible rfl))
            try simp only [Act.put, List.setIfInBounds_toArray, List.set_cons_zero, List.set_cons_succ]
            refine wpAnyH_ready (rs := [11]) (by kernel_rfl) (by simp) ?_
            refine regCons rfl (fun K hK => ?_)
            go_simp
            have hc277 := implSubPositive (.mk 1 []) t4a _ _ _ _ _ (HAL145.out.below (below_trans hq249 (hkg270_1))) (HA4a.out.below (below_trans hq249 (hkg270_1)))
            rw [EQ257.out] at hc277
            refine hc277.mono ?_
            rintro e yg270_2 ⟨rfl, hyg270_2⟩
            have hkg270_2 := below_trans (hkg270_1) hyg270_2
            clear hc277
            refine hK.out _ _ ?_ (fun hS3 => ?_)
            · (refine (fun hB => ⟨hB, cell_keep xa1_ hB, cell_keep xb1_ hB, cell_keep xa2_ hB, cell_keep xb2_ hB, cell_keep xa4_ hB, cell_keep xb4_ hB⟩ : Below (z249).heap.size (z249) _ → _) ?_; exact hkg270_2)
            clear hK K hS2
            try simp only [Act.put, List.setIfInBounds_toArray, List.set_cons_zero, List.set_cons_succ]
            refine wpAnyH_ready (rs := [14]) (by kernel_rfl) (by simp) ?_
            refine regCons rfl (fun K hK => ?_)
            go_simp
            have hc280 := implTypeSame (.mk 1 []) t4a _ _ _ _ _ (by have := HCL145.out; omega) (HAL145.out.below (below_trans hq249 (hkg270_2))) (HA4a.out.below (below_trans hq249 (hkg270_2))) (fun x hx => (HRL145.out x hx).below (below_trans hq249 (hkg270_2))) (fun x hx => (HR4a.out x hx).below (below_trans hq249 (hkg270_2)))
            rw [EQ279.out] at hc280
            refine hc280.mono ?_
            rintro e yg270_3 ⟨rfl, hyg270_3⟩
            have hkg270_3 := below_trans (hkg270_2) hyg270_3
            clear hc280
            refine hK.out _ _ ?_ (fun hS4 => ?_)
            · (refine (fun hB => ⟨hB, cell_keep xa1_ hB, cell_keep xb1_ hB, cell_keep xa2_ hB, cell_keep xb2_ hB, cell_keep xa4_ hB, cell_keep xb4_ hB⟩ : Below (z249).heap.size (z249) _ → _) ?_; exact hkg270_3)
            clear hK K hS3
            try simp only [Act.put, List.setIfInBounds_toArray, List.set_cons_zero, List.set_cons_succ]
            refine regTake (i := 15) (v := ?vg270_15) rfl (by kernel_rfl) (by kernel_rfl) (by kernel_rfl) (fun _ _ _ h => h) (Or.inl ⟨by rfl, ?hyg270_15⟩) (by assumption) ?_
            case hyg270_15 => (intro w hSw; (try dsimp only at hSw); go_simp; (try with_reducible rfl))
            try simp only [Act.put, List.setIfInBounds_toArray, List.set_cons_zero, List.set_cons_succ]
            refine regTake (i := 16) (v := .bool true) rfl (by kernel_rfl) (by kernel_rfl) (by kernel_rfl) (fun _ _ _ h => h) (Or.inl ⟨by rfl, ?hyg270_16⟩) (by assumption) ?_
            case hyg270_16 => (intro w hSw; (try dsimp only at hSw); go_simp; (try with_reducible rfl))
            try simp only [Act.put, List.setIfInBounds_toArray, List.set_cons_zero, List.set_cons_succ]
            refine regTake (i := 17) (v := ?vg270_17) rfl (by kernel_rfl) (by kernel_rfl) (by kernel_rfl) (fun _ _ _ h => h) (Or.inl ⟨by rfl, ?hyg270_17⟩) (by assumption) ?_
            case hyg270_17 => (intro w hSw; (try dsimp only at hSw); go_simp; (try with_reducible rfl))
            try simp only [Act.put, List.setIfInBounds_toArray, List.set_cons_zero, List.set_cons_succ]
            refine wpAnyH_done (by kernel_rfl) ?_ _
            have hlg270_ := below_trans hq249 hkg270_3
            replace xa1_ := cell_keep xa1_ hkg270_3
            replace xb1_ := cell_keep xb1_ hkg270_3
            replace xa2_ := cell_keep xa2_ hkg270_3
            replace xb2_ := cell_keep xb2_ hkg270_3
            replace xa4_ := cell_keep xa4_ hkg270_3
            replace xb4_ := cell_keep xb4_ hkg270_3
            go_wp2_with fail
            go_ret
            exact ⟨rfl, below_trans HBL.out hlg270_⟩
      · have EQ156 := hid hq156
        clear hq156
        go_wp2_with fail
        have hc283 := specSubtype t4a t4b _ _ _ _ _ (HA4a.out.below h0146) (HA4b.out.below h0146)
        rw [EQ7.out] at hc283
        refine hc283.mono ?_
        rintro e z284 ⟨rfl, hz284⟩
        have hq284 := below_trans h0146 hz284
        replace xa1_ := cell_keep xa1_ hz284
        replace xb1_ := cell_keep xb1_ hz284
        replace xa2_ := cell_keep xa2_ hz284
        replace xb2_ := cell_keep xb2_ hz284
        replace xa4_ := cell_keep xa4_ hz284
        replace xb4_ := cell_keep xb4_ hz284
        clear hc283 hz284
        go_wp2_with fail
        have hc285 := implTypeValid_any t4a _ _ _ (HA4a.out.below hq284)
        rw [EQ150.out] at hc285
        refine hc285.mono ?_
        rintro e z286 ⟨rfl, hz286⟩
        have hq286 := below_trans hq284 hz286
        replace xa1_ := cell_keep xa1_ hz286
        replace xb1_ := cell_keep xb1_ hz286
        replace xa2_ := cell_keep xa2_ hz286
        replace xb2_ := cell_keep xb2_ hz286
        replace xa4_ := cell_keep xa4_ hz286
        replace xb4_ := cell_keep xb4_ hz286
        clear hc285 hz286
        go_wp2_with fail
        have hc287 := implTypeValid_any t4b _ _ _ (HA4b.out.below hq286)
        rw [EQ156.out] at hc287
        refine hc287.mono ?_
        rintro e z288 ⟨rfl, hz288⟩
        have hq288 := below_trans hq286 hz288
        replace xa1_ := cell_keep xa1_ hz288
        replace xb1_ := cell_keep xb1_ hz288
        replace xa2_ := cell_keep xa2_ hz288
        replace xb2_ := cell_keep xb2_ hz288
        replace xa4_ := cell_keep xa4_ hz288
        replace xb4_ := cell_keep xb4_ hz288
        clear hc287 hz288
        go_wp2_with fail
        have hc290 := specSubtype t4a t4b _ _ _ _ _ (HA4a.out.below hq288) (HA4b.out.below hq288)
        rw [EQ7.out] at hc290
        refine hc290.mono ?_
        rintro e z291 ⟨rfl, hz291⟩
        have hq291 := below_trans hq288 hz291
        replace xa1_ := cell_keep xa1_ hz291
        replace xb1_ := cell_keep xb1_ hz291
        replace xa2_ := cell_keep xa2_ hz291
        replace xb2_ := cell_keep xb2_ hz291
        replace xa4_ := cell_keep xa4_ hz291
        replace xb4_ := cell_keep xb4_ hz291
        clear hc290 hz291
        go_wp2_with fail
        go_ret
        exact ⟨rfl, below_trans HBL.out hq291⟩
    · have EQ150 := hid hq150
      clear hq150
      go_wp2_with fail
      have hc293 := specSubtype t4a t4b _ _ _ _ _ (HA4a.out.below h0146) (HA4b.out.below h0146)
      rw [EQ7.out] at hc293
      refine hc293.mono ?_
      rintro e z294 ⟨rfl, hz294⟩
      have hq294 := below_trans h0146 hz294
      replace xa1_ := cell_keep xa1_ hz294
      replace xb1_ := cell_keep xb1_ hz294
      replace xa2_ := cell_keep xa2_ hz294
      replace xb2_ := cell_keep xb2_ hz294
      replace xa4_ := cell_keep xa4_ hz294
      replace xb4_ := cell_keep xb4_ hz294
      clear hc293 hz294
      go_wp2_with fail
      have hc295 := implTypeValid_any t4a _ _ _ (HA4a.out.below hq294)
      rw [EQ150.out] at hc295
      refine hc295.mono ?_
      rintro e z296 ⟨rfl, hz296⟩
      have hq296 := below_trans hq294 hz296
      replace xa1_ := cell_keep xa1_ hz296
      replace xb1_ := cell_keep xb1_ hz296
      replace xa2_ := cell_keep xa2_ hz296
      replace xb2_ := cell_keep xb2_ hz296
      replace xa4_ := cell_keep xa4_ hz296
      replace xb4_ := cell_keep xb4_ hz296
      clear hc295 hz296
      go_wp2_with fail
      have hc298 := specSubtype t4a t4b _ _ _ _ _ (HA4a.out.below hq296) (HA4b.out.below hq296)
      rw [EQ7.out] at hc298
      refine hc298.mono ?_
      rintro e z299 ⟨rfl, hz299⟩
      have hq299 := below_trans hq296 hz299
      replace xa1_ := cell_keep xa1_ hz299
      replace xb1_ := cell_keep xb1_ hz299
      replace xa2_ := cell_keep xa2_ hz299
      replace xb2_ := cell_keep xb2_ hz299
      replace xa4_ := cell_keep xa4_ hz299
      replace xb4_ := cell_keep xb4_ hz299
      clear hc298 hz299
      go_wp2_with fail
      go_ret
      exact ⟨rfl, below_trans HBL.out hq299⟩
end Go.Proofs.Ytelbpgdlcnnabaa
