/- The law FnMatchTypes: it returns true and writes nothing that was there. -/
import Derived.Test.YtelbpgdlcnnabaaDvP
import Derived.Test.YtelbpgdlcnnabaaDlP
import Derived.Test.YtelbpgdlcnnabaaMtP
import Derived.Test.YtelbpgdlcnnabaaReg
import Derived.Test.YtelbpgdlcnnabaaRaw
import Derived.Test.YtelbpgdlcnnabaaRel
import Derived.Test.YtelbpgdlcnnabaaMtcI
import Derived.Deep.RegionHeld3
namespace Go.Proofs.Ytelbpgdlcnnabaa
open Go.RowKit

/-- Boxes that have just been laid. -/
theorem lay1 (w : World) (o1 : Obj) : (w.alloc o1).heap[w.heap.size]? = some o1 := alloc_new _ _
theorem lay2 (w : World) (o1 o2 : Obj) : ((w.alloc o1).alloc o2).heap[w.heap.size]? = some o1 ∧ ((w.alloc o1).alloc o2).heap[w.heap.size + 1]? = some o2 := by
  have h2 := alloc_new (w.alloc o1) o2
  have hs : (w.alloc o1).heap.size = w.heap.size + 1 := by simp
  rw [hs] at h2
  exact ⟨(Below.heap_alloc _ _ _ (by simp)).trans (alloc_new _ _), h2⟩
theorem lay3 (w : World) (o1 o2 o3 : Obj) : (((w.alloc o1).alloc o2).alloc o3).heap[w.heap.size]? = some o1 ∧ (((w.alloc o1).alloc o2).alloc o3).heap[w.heap.size + 1]? = some o2 ∧ (((w.alloc o1).alloc o2).alloc o3).heap[w.heap.size + 1 + 1]? = some o3 := by
  obtain ⟨a, b⟩ := lay2 w o1 o2
  have h3 := alloc_new ((w.alloc o1).alloc o2) o3
  have hs : ((w.alloc o1).alloc o2).heap.size = w.heap.size + 1 + 1 := by simp
  rw [hs] at h3
  exact ⟨(Below.heap_alloc _ _ _ (by simp; omega)).trans a, (Below.heap_alloc _ _ _ (by simp)).trans b, h3⟩


set_option linter.unusedSimpArgs false in
set_option linter.unusedVariables false in
set_option maxRecDepth 100000 in
set_option maxHeartbeats 16000000 in
theorem lawDMch (a00 : Option Addr) (n00 cap00 : Nat) (w : World) (hB0 : BytA w a00 n00) (hn0 : n00 ≤ cap00) (hm0 : cap00 ≤ maxLen) :
    Calls Try.prog 13 #[.slice a00 n00 cap00] w fun e w' => e = .returned (.bool true) ∧ Below w.heap.size w w' := by
  by_cases hl0 : (n00 : Int) > 1048576
  · clear hB0
    go_enter Try.func13, Try.ntmps13
    go_wp2_with fail
    go_ret
    exact ⟨rfl, Below.refl _ _⟩
  have HBY0 := hid hB0
  have HNN0 := hid hn0
  have HMM0 := hid hm0
  clear hB0 hn0 hm0
  go_enter Try.func13, Try.ntmps13
  go_wp2_with fail
  refine (drawMatchPair_any a00 n00 cap00 _ (HBY0.out.below (Below.refl _ _)) HNN0.out HMM0.out).mono ?_
  rintro e z4 ⟨t4a, v4a, f4a, rfl, hs4, ht4a, hg4a, hz4⟩
  obtain ⟨k4a, n4a, a4a, c4a, rfl⟩ := ht4a.agg
  have hba5 : Below z4.heap.size z4 (z4.alloc (Obj.cells #[.int .i64 k4a, .slice a4a n4a c4a] 25)) := ((Below.refl _ _).alloc (Nat.le_refl _) _)
  have hbb5 := below_trans hz4 hba5
  have hbc5 := hbb5
  have HBL := hid hbc5
  have hl5 := lay1 z4 (Obj.cells #[.int .i64 k4a, .slice a4a n4a c4a] 25)
  have HA4a := hid (ht4a.below hba5)
  have HR4a := hid (show ∀ x ∈ f4a, Raw (z4.alloc (Obj.cells #[.int .i64 k4a, .slice a4a n4a c4a] 25)) x from fun x hx => Raw.below ⟨ht4a.laid x hx, (hg4a x hx).2⟩ hba5)
  have HC4a := hid (show ((t4a) : Ty).cnt ≤ 100 from hs4)
  have xa1_ : ((z4.alloc (Obj.cells #[.int .i64 k4a, .slice a4a n4a c4a] 25))).cell? ⟨z4.heap.size, 0, none⟩ = some (.int .i64 k4a) := by rw [cell_of_block (hl5)]; rfl
  have xb1_ : ((z4.alloc (Obj.cells #[.int .i64 k4a, .slice a4a n4a c4a] 25))).cell? ⟨z4.heap.size, 1, none⟩ = some (.slice a4a n4a c4a) := by rw [cell_of_block (hl5)]; rfl
  have h05 := Below.refl ((z4.alloc (Obj.cells #[.int .i64 k4a, .slice a4a n4a c4a] 25))).heap.size (z4.alloc (Obj.cells #[.int .i64 k4a, .slice a4a n4a c4a] 25))
  clear ht4a
  clear hba5 hbb5 hbc5 hl5 hz4
  rcases Bool.eq_false_or_eq_true (mtOk 5 t4a) with hq7 | hq7
  · have EQ7 := hid hq7
    clear hq7
    go_wp2_with fail
    have hc9 := implMatchPair t4a _ _ _ (HA4a.out.below h05) (by have := HC4a.out; omega)
    rw [EQ7.out] at hc9
    refine hc9.mono ?_
    rintro e z10 ⟨v10a, v10b, f10a, f10b, M10, rfl, ht10a, ht10b, hf10a, hf10b, -, -, -, -, hz10⟩
    obtain ⟨k10a, n10a, a10a, c10a, rfl⟩ := ht10a.agg
    obtain ⟨k10b, n10b, a10b, c10b, rfl⟩ := ht10b.agg
    clear hc9
    have hba11 : Below z10.heap.size z10 ((z10.alloc (Obj.cells #[.int .i64 k10a, .slice a10a n10a c10a] 25)).alloc (Obj.cells #[.int .i64 k10b, .slice a10b n10b c10b] 25)) := (((Below.refl _ _).alloc (Nat.le_refl _) _).alloc (by simp) _)
    have hbb11 := below_trans hz10 hba11
    have hbc11 := below_trans h05 hbb11
    replace HA4a := hid (HA4a.out.below hbc11)
    replace HR4a := hid (fun x hx => (HR4a.out x hx).below hbc11)
    replace HBL := hid (below_trans HBL.out hbc11)
    replace xa1_ := cell_keep xa1_ hbb11
    replace xb1_ := cell_keep xb1_ hbb11
    have hl11 := lay2 z10 (Obj.cells #[.int .i64 k10a, .slice a10a n10a c10a] 25) (Obj.cells #[.int .i64 k10b, .slice a10b n10b c10b] 25)
    have HA10a := hid (ht10a.below hba11)
    have HR10a := hid (show ∀ x ∈ f10a, Raw ((z10.alloc (Obj.cells #[.int .i64 k10a, .slice a10a n10a c10a] 25)).alloc (Obj.cells #[.int .i64 k10b, .slice a10b n10b c10b] 25)) x from fun x hx => Raw.below (Fresh.raw ht10a hf10a x hx) hba11)
    have HC10a := hid (show ((mtOf 5 0 t4a) : Ty).cnt ≤ 100 from (Nat.le_trans (by have := mt_cnt 5 (by omega) t4a; omega) HC4a.out))
    have HA10b := hid (ht10b.below hba11)
    have HR10b := hid (show ∀ x ∈ f10b, Raw ((z10.alloc (Obj.cells #[.int .i64 k10a, .slice a10a n10a c10a] 25)).alloc (Obj.cells #[.int .i64 k10b, .slice a10b n10b c10b] 25)) x from fun x hx => Raw.below (Fresh.raw ht10b hf10b x hx) hba11)
    have HC10b := hid (show ((mtOf 5 1 t4a) : Ty).cnt ≤ 100 from (Nat.le_trans (by have := mt_cnt 5 (by omega) t4a; omega) HC4a.out))
    have xa2_ : (((z10.alloc (Obj.cells #[.int .i64 k10a, .slice a10a n10a c10a] 25)).alloc (Obj.cells #[.int .i64 k10b, .slice a10b n10b c10b] 25))).cell? ⟨z10.heap.size, 0, none⟩ = some (.int .i64 k10a) := by rw [cell_of_block (hl11.1)]; rfl
    have xb2_ : (((z10.alloc (Obj.cells #[.int .i64 k10a, .slice a10a n10a c10a] 25)).alloc (Obj.cells #[.int .i64 k10b, .slice a10b n10b c10b] 25))).cell? ⟨z10.heap.size, 1, none⟩ = some (.slice a10a n10a c10a) := by rw [cell_of_block (hl11.1)]; rfl
    have xa3_ : (((z10.alloc (Obj.cells #[.int .i64 k10a, .slice a10a n10a c10a] 25)).alloc (Obj.cells #[.int .i64 k10b, .slice a10b n10b c10b] 25))).cell? ⟨z10.heap.size + 1, 0, none⟩ = some (.int .i64 k10b) := by rw [cell_of_block (hl11.2)]; rfl
    have xb3_ : (((z10.alloc (Obj.cells #[.int .i64 k10a, .slice a10a n10a c10a] 25)).alloc (Obj.cells #[.int .i64 k10b, .slice a10b n10b c10b] 25))).cell? ⟨z10.heap.size + 1, 1, none⟩ = some (.slice a10b n10b c10b) := by rw [cell_of_block (hl11.2)]; rfl
    have h011 := Below.refl (((z10.alloc (Obj.cells #[.int .i64 k10a, .slice a10a n10a c10a] 25)).alloc (Obj.cells #[.int .i64 k10b, .slice a10b n10b c10b] 25))).heap.size ((z10.alloc (Obj.cells #[.int .i64 k10a, .slice a10a n10a c10a] 25)).alloc (Obj.cells #[.int .i64 k10b, .slice a10b n10b c10b] 25))
    clear ht10a
    clear ht10b
    clear hba11 hbb11 hbc11 hl11 hz10
    go_wp2_with fail
    have hc13 := specMatchPair t4a _ _ _ (HA4a.out.below h011) (by have := HC4a.out; omega)
    rw [EQ7.out] at hc13
    refine hc13.mono ?_
    rintro e z14 ⟨v14a, v14b, f14a, f14b, M14, rfl, ht14a, ht14b, hf14a, hf14b, -, -, -, -, hz14⟩
    obtain ⟨k14a, n14a, a14a, c14a, rfl⟩ := ht14a.agg
    obtain ⟨k14b, n14b, a14b, c14b, rfl⟩ := ht14b.agg
    clear hc13
    have hba15 : Below z14.heap.size z14 ((z14.alloc (Obj.cells #[.int .i64 k14a, .slice a14a n14a c14a] 25)).alloc (Obj.cells #[.int .i64 k14b, .slice a14b n14b c14b] 25)) := (((Below.refl _ _).alloc (Nat.le_refl _) _).alloc (by simp) _)
    have hbb15 := below_trans hz14 hba15
    have hbc15 := below_trans h011 hbb15
    replace HA4a := hid (HA4a.out.below hbc15)
    replace HR4a := hid (fun x hx => (HR4a.out x hx).below hbc15)
    replace HA10a := hid (HA10a.out.below hbc15)
    replace HR10a := hid (fun x hx => (HR10a.out x hx).below hbc15)
    replace HA10b := hid (HA10b.out.below hbc15)
    replace HR10b := hid (fun x hx => (HR10b.out x hx).below hbc15)
    replace HBL := hid (below_trans HBL.out hbc15)
    replace xa1_ := cell_keep xa1_ hbb15
    replace xb1_ := cell_keep xb1_ hbb15
    replace xa2_ := cell_keep xa2_ hbb15
    replace xb2_ := cell_keep xb2_ hbb15
    replace xa3_ := cell_keep xa3_ hbb15
    replace xb3_ := cell_keep xb3_ hbb15
    have hl15 := lay2 z14 (Obj.cells #[.int .i64 k14a, .slice a14a n14a c14a] 25) (Obj.cells #[.int .i64 k14b, .slice a14b n14b c14b] 25)
    have HA14a := hid (ht14a.below hba15)
    have HR14a := hid (show ∀ x ∈ f14a, Raw ((z14.alloc (Obj.cells #[.int .i64 k14a, .slice a14a n14a c14a] 25)).alloc (Obj.cells #[.int .i64 k14b, .slice a14b n14b c14b] 25)) x from fun x hx => Raw.below (Fresh.raw ht14a hf14a x hx) hba15)
    have HC14a := hid (show ((mtOf 5 0 t4a) : Ty).cnt ≤ 100 from (Nat.le_trans (by have := mt_cnt 5 (by omega) t4a; omega) HC4a.out))
    have HA14b := hid (ht14b.below hba15)
    have HR14b := hid (show ∀ x ∈ f14b, Raw ((z14.alloc (Obj.cells #[.int .i64 k14a, .slice a14a n14a c14a] 25)).alloc (Obj.cells #[.int .i64 k14b, .slice a14b n14b c14b] 25)) x from fun x hx => Raw.below (Fresh.raw ht14b hf14b x hx) hba15)
    have HC14b := hid (show ((mtOf 5 1 t4a) : Ty).cnt ≤ 100 from (Nat.le_trans (by have := mt_cnt 5 (by omega) t4a; omega) HC4a.out))
    have xa4_ : (((z14.alloc (Obj.cells #[.int .i64 k14a, .slice a14a n14a c14a] 25)).alloc (Obj.cells #[.int .i64 k14b, .slice a14b n14b c14b] 25))).cell? ⟨z14.heap.size, 0, none⟩ = some (.int .i64 k14a) := by rw [cell_of_block (hl15.1)]; rfl
    have xb4_ : (((z14.alloc (Obj.cells #[.int .i64 k14a, .slice a14a n14a c14a] 25)).alloc (Obj.cells #[.int .i64 k14b, .slice a14b n14b c14b] 25))).cell? ⟨z14.heap.size, 1, none⟩ = some (.slice a14a n14a c14a) := by rw [cell_of_block (hl15.1)]; rfl
    have xa5_ : (((z14.alloc (Obj.cells #[.int .i64 k14a, .slice a14a n14a c14a] 25)).alloc (Obj.cells #[.int .i64 k14b, .slice a14b n14b c14b] 25))).cell? ⟨z14.heap.size + 1, 0, none⟩ = some (.int .i64 k14b) := by rw [cell_of_block (hl15.2)]; rfl
    have xb5_ : (((z14.alloc (Obj.cells #[.int .i64 k14a, .slice a14a n14a c14a] 25)).alloc (Obj.cells #[.int .i64 k14b, .slice a14b n14b c14b] 25))).cell? ⟨z14.heap.size + 1, 1, none⟩ = some (.slice a14b n14b c14b) := by rw [cell_of_block (hl15.2)]; rfl
    have h015 := Below.refl (((z14.alloc (Obj.cells #[.int .i64 k14a, .slice a14a n14a c14a] 25)).alloc (Obj.cells #[.int .i64 k14b, .slice a14b n14b c14b] 25))).heap.size ((z14.alloc (Obj.cells #[.int .i64 k14a, .slice a14a n14a c14a] 25)).alloc (Obj.cells #[.int .i64 k14b, .slice a14b n14b c14b] 25))
    clear ht14a
    clear ht14b
    clear hba15 hbb15 hbc15 hl15 hz14
    rcases Bool.eq_false_or_eq_true (mtOk 4 t4a) with hq17 | hq17
    · have EQ17 := hid hq17
      clear hq17
      go_wp2_with fail
      have hc19 := implMatchFun t4a _ _ _ (HA4a.out.below h015) (by have := HC4a.out; omega)
      rw [EQ17.out] at hc19
      refine hc19.mono ?_
      rintro e z20 ⟨v20a, v20b, f20a, f20b, M20, rfl, ht20a, ht20b, hf20a, hf20b, -, -, -, -, hz20⟩
      obtain ⟨k20a, n20a, a20a, c20a, rfl⟩ := ht20a.agg
      obtain ⟨k20b, n20b, a20b, c20b, rfl⟩ := ht20b.agg
      clear hc19
      have hba21 : Below z20.heap.size z20 ((z20.alloc (Obj.cells #[.int .i64 k20a, .slice a20a n20a c20a] 25)).alloc (Obj.cells #[.int .i64 k20b, .slice a20b n20b c20b] 25)) := (((Below.refl _ _).alloc (Nat.le_refl _) _).alloc (by simp) _)
      have hbb21 := below_trans hz20 hba21
      have hbc21 := below_trans h015 hbb21
      replace HA4a := hid (HA4a.out.below hbc21)
      replace HR4a := hid (fun x hx => (HR4a.out x hx).below hbc21)
      replace HA10a := hid (HA10a.out.below hbc21)
      replace HR10a := hid (fun x hx => (HR10a.out x hx).below hbc21)
      replace HA10b := hid (HA10b.out.below hbc21)
      replace HR10b := hid (fun x hx => (HR10b.out x hx).below hbc21)
      replace HA14a := hid (HA14a.out.below hbc21)
      replace HR14a := hid (fun x hx => (HR14a.out x hx).below hbc21)
      replace HA14b := hid (HA14b.out.below hbc21)
      replace HR14b := hid (fun x hx => (HR14b.out x hx).below hbc21)
      replace HBL := hid (below_trans HBL.out hbc21)
      replace xa1_ := cell_keep xa1_ hbb21
      replace xb1_ := cell_keep xb1_ hbb21
      replace xa2_ := cell_keep xa2_ hbb21
      replace xb2_ := cell_keep xb2_ hbb21
      replace xa3_ := cell_keep xa3_ hbb21
      replace xb3_ := cell_keep xb3_ hbb21
      replace xa4_ := cell_keep xa4_ hbb21
      replace xb4_ := cell_keep xb4_ hbb21
      replace xa5_ := cell_keep xa5_ hbb21
      replace xb5_ := cell_keep xb5_ hbb21
      have hl21 := lay2 z20 (Obj.cells #[.int .i64 k20a, .slice a20a n20a c20a] 25) (Obj.cells #[.int .i64 k20b, .slice a20b n20b c20b] 25)
      have HA20a := hid (ht20a.below hba21)
      have HR20a := hid (show ∀ x ∈ f20a, Raw ((z20.alloc (Obj.cells #[.int .i64 k20a, .slice a20a n20a c20a] 25)).alloc (Obj.cells #[.int .i64 k20b, .slice a20b n20b c20b] 25)) x from fun x hx => Raw.below (Fresh.raw ht20a hf20a x hx) hba21)
      have HC20a := hid (show ((mtOf 4 0 t4a) : Ty).cnt ≤ 100 from (Nat.le_trans (by have := mt_cnt 4 (by omega) t4a; omega) HC4a.out))
      have HA20b := hid (ht20b.below hba21)
      have HR20b := hid (show ∀ x ∈ f20b, Raw ((z20.alloc (Obj.cells #[.int .i64 k20a, .slice a20a n20a c20a] 25)).alloc (Obj.cells #[.int .i64 k20b, .slice a20b n20b c20b] 25)) x from fun x hx => Raw.below (Fresh.raw ht20b hf20b x hx) hba21)
      have HC20b := hid (show ((mtOf 4 1 t4a) : Ty).cnt ≤ 100 from (Nat.le_trans (by have := mt_cnt 4 (by omega) t4a; omega) HC4a.out))
      have xa6_ : (((z20.alloc (Obj.cells #[.int .i64 k20a, .slice a20a n20a c20a] 25)).alloc (Obj.cells #[.int .i64 k20b, .slice a20b n20b c20b] 25))).cell? ⟨z20.heap.size, 0, none⟩ = some (.int .i64 k20a) := by rw [cell_of_block (hl21.1)]; rfl
      have xb6_ : (((z20.alloc (Obj.cells #[.int .i64 k20a, .slice a20a n20a c20a] 25)).alloc (Obj.cells #[.int .i64 k20b, .slice a20b n20b c20b] 25))).cell? ⟨z20.heap.size, 1, none⟩ = some (.slice a20a n20a c20a) := by rw [cell_of_block (hl21.1)]; rfl
      have xa7_ : (((z20.alloc (Obj.cells #[.int .i64 k20a, .slice a20a n20a c20a] 25)).alloc (Obj.cells #[.int .i64 k20b, .slice a20b n20b c20b] 25))).cell? ⟨z20.heap.size + 1, 0, none⟩ = some (.int .i64 k20b) := by rw [cell_of_block (hl21.2)]; rfl
      have xb7_ : (((z20.alloc (Obj.cells #[.int .i64 k20a, .slice a20a n20a c20a] 25)).alloc (Obj.cells #[.int .i64 k20b, .slice a20b n20b c20b] 25))).cell? ⟨z20.heap.size + 1, 1, none⟩ = some (.slice a20b n20b c20b) := by rw [cell_of_block (hl21.2)]; rfl
      have h021 := Below.refl (((z20.alloc (Obj.cells #[.int .i64 k20a, .slice a20a n20a c20a] 25)).alloc (Obj.cells #[.int .i64 k20b, .slice a20b n20b c20b] 25))).heap.size ((z20.alloc (Obj.cells #[.int .i64 k20a, .slice a20a n20a c20a] 25)).alloc (Obj.cells #[.int .i64 k20b, .slice a20b n20b c20b] 25))
      clear ht20a
      clear ht20b
      clear hba21 hbb21 hbc21 hl21 hz20
      go_wp2_with fail
      have hc23 := specMatchFun t4a _ _ _ (HA4a.out.below h021) (by have := HC4a.out; omega)
      rw [EQ17.out] at hc23
      refine hc23.mono ?_
      rintro e z24 ⟨v24a, v24b, f24a, f24b, M24, rfl, ht24a, ht24b, hf24a, hf24b, -, -, -, -, hz24⟩
      obtain ⟨k24a, n24a, a24a, c24a, rfl⟩ := ht24a.agg
      obtain ⟨k24b, n24b, a24b, c24b, rfl⟩ := ht24b.agg
      clear hc23
      have hba25 : Below z24.heap.size z24 ((z24.alloc (Obj.cells #[.int .i64 k24a, .slice a24a n24a c24a] 25)).alloc (Obj.cells #[.int .i64 k24b, .slice a24b n24b c24b] 25)) := (((Below.refl _ _).alloc (Nat.le_refl _) _).alloc (by simp) _)
      have hbb25 := below_trans hz24 hba25
      have hbc25 := below_trans h021 hbb25
      replace HA4a := hid (HA4a.out.below hbc25)
      replace HR4a := hid (fun x hx => (HR4a.out x hx).below hbc25)
      replace HA10a := hid (HA10a.out.below hbc25)
      replace HR10a := hid (fun x hx => (HR10a.out x hx).below hbc25)
      replace HA10b := hid (HA10b.out.below hbc25)
      replace HR10b := hid (fun x hx => (HR10b.out x hx).below hbc25)
      replace HA14a := hid (HA14a.out.below hbc25)
      replace HR14a := hid (fun x hx => (HR14a.out x hx).below hbc25)
      replace HA14b := hid (HA14b.out.below hbc25)
      replace HR14b := hid (fun x hx => (HR14b.out x hx).below hbc25)
      replace HA20a := hid (HA20a.out.below hbc25)
      replace HR20a := hid (fun x hx => (HR20a.out x hx).below hbc25)
      replace HA20b := hid (HA20b.out.below hbc25)
      replace HR20b := hid (fun x hx => (HR20b.out x hx).below hbc25)
      replace HBL := hid (below_trans HBL.out hbc25)
      replace xa1_ := cell_keep xa1_ hbb25
      replace xb1_ := cell_keep xb1_ hbb25
      replace xa2_ := cell_keep xa2_ hbb25
      replace xb2_ := cell_keep xb2_ hbb25
      replace xa3_ := cell_keep xa3_ hbb25
      replace xb3_ := cell_keep xb3_ hbb25
      replace xa4_ := cell_keep xa4_ hbb25
      replace xb4_ := cell_keep xb4_ hbb25
      replace xa5_ := cell_keep xa5_ hbb25
      replace xb5_ := cell_keep xb5_ hbb25
      replace xa6_ := cell_keep xa6_ hbb25
      replace xb6_ := cell_keep xb6_ hbb25
      replace xa7_ := cell_keep xa7_ hbb25
      replace xb7_ := cell_keep xb7_ hbb25
      have hl25 := lay2 z24 (Obj.cells #[.int .i64 k24a, .slice a24a n24a c24a] 25) (Obj.cells #[.int .i64 k24b, .slice a24b n24b c24b] 25)
      have HA24a := hid (ht24a.below hba25)
      have HR24a := hid (show ∀ x ∈ f24a, Raw ((z24.alloc (Obj.cells #[.int .i64 k24a, .slice a24a n24a c24a] 25)).alloc (Obj.cells #[.int .i64 k24b, .slice a24b n24b c24b] 25)) x from fun x hx => Raw.below (Fresh.raw ht24a hf24a x hx) hba25)
      have HC24a := hid (show ((mtOf 4 0 t4a) : Ty).cnt ≤ 100 from (Nat.le_trans (by have := mt_cnt 4 (by omega) t4a; omega) HC4a.out))
      have HA24b := hid (ht24b.below hba25)
      have HR24b := hid (show ∀ x ∈ f24b, Raw ((z24.alloc (Obj.cells #[.int .i64 k24a, .slice a24a n24a c24a] 25)).alloc (Obj.cells #[.int .i64 k24b, .slice a24b n24b c24b] 25)) x from fun x hx => Raw.below (Fresh.raw ht24b hf24b x hx) hba25)
      have HC24b := hid (show ((mtOf 4 1 t4a) : Ty).cnt ≤ 100 from (Nat.le_trans (by have := mt_cnt 4 (by omega) t4a; omega) HC4a.out))
      have xa8_ : (((z24.alloc (Obj.cells #[.int .i64 k24a, .slice a24a n24a c24a] 25)).alloc (Obj.cells #[.int .i64 k24b, .slice a24b n24b c24b] 25))).cell? ⟨z24.heap.size, 0, none⟩ = some (.int .i64 k24a) := by rw [cell_of_block (hl25.1)]; rfl
      have xb8_ : (((z24.alloc (Obj.cells #[.int .i64 k24a, .slice a24a n24a c24a] 25)).alloc (Obj.cells #[.int .i64 k24b, .slice a24b n24b c24b] 25))).cell? ⟨z24.heap.size, 1, none⟩ = some (.slice a24a n24a c24a) := by rw [cell_of_block (hl25.1)]; rfl
      have xa9_ : (((z24.alloc (Obj.cells #[.int .i64 k24a, .slice a24a n24a c24a] 25)).alloc (Obj.cells #[.int .i64 k24b, .slice a24b n24b c24b] 25))).cell? ⟨z24.heap.size + 1, 0, none⟩ = some (.int .i64 k24b) := by rw [cell_of_block (hl25.2)]; rfl
      have xb9_ : (((z24.alloc (Obj.cells #[.int .i64 k24a, .slice a24a n24a c24a] 25)).alloc (Obj.cells #[.int .i64 k24b, .slice a24b n24b c24b] 25))).cell? ⟨z24.heap.size + 1, 1, none⟩ = some (.slice a24b n24b c24b) := by rw [cell_of_block (hl25.2)]; rfl
      have h025 := Below.refl (((z24.alloc (Obj.cells #[.int .i64 k24a, .slice a24a n24a c24a] 25)).alloc (Obj.cells #[.int .i64 k24b, .slice a24b n24b c24b] 25))).heap.size ((z24.alloc (Obj.cells #[.int .i64 k24a, .slice a24a n24a c24a] 25)).alloc (Obj.cells #[.int .i64 k24b, .slice a24b n24b c24b] 25))
      clear ht24a
      clear ht24b
      clear hba25 hbb25 hbc25 hl25 hz24
      have EQ27 := hid (show tyEq (mtOf 5 0 t4a) (mtOf 5 0 t4a) = true from tyEq_refl (mtOf 5 0 t4a))
      go_wp2_with fail
      have hc28 := implTypeSame (mtOf 5 0 t4a) (mtOf 5 0 t4a) _ _ _ _ _ (by have := HC10a.out; omega) (HA10a.out.below h025) (HA14a.out.below h025) (fun x hx => (HR10a.out x hx).below h025) (fun x hx => (HR14a.out x hx).below h025)
      rw [EQ27.out] at hc28
      refine hc28.mono ?_
      rintro e z29 ⟨rfl, hz29⟩
      have hq29 := below_trans h025 hz29
      replace xa1_ := cell_keep xa1_ hz29
      replace xb1_ := cell_keep xb1_ hz29
      replace xa2_ := cell_keep xa2_ hz29
      replace xb2_ := cell_keep xb2_ hz29
      replace xa3_ := cell_keep xa3_ hz29
      replace xb3_ := cell_keep xb3_ hz29
      replace xa4_ := cell_keep xa4_ hz29
      replace xb4_ := cell_keep xb4_ hz29
      replace xa5_ := cell_keep xa5_ hz29
      replace xb5_ := cell_keep xb5_ hz29
      replace xa6_ := cell_keep xa6_ hz29
      replace xb6_ := cell_keep xb6_ hz29
      replace xa7_ := cell_keep xa7_ hz29
      replace xb7_ := cell_keep xb7_ hz29
      replace xa8_ := cell_keep xa8_ hz29
      replace xb8_ := cell_keep xb8_ hz29
      replace xa9_ := cell_keep xa9_ hz29
      replace xb9_ := cell_keep xb9_ hz29
      clear hc28 hz29
      have EQ30 := hid (show tyEq (mtOf 5 1 t4a) (mtOf 5 1 t4a) = true from tyEq_refl (mtOf 5 1 t4a))
      go_wp2_with fail
      have hc31 := implTypeSame (mtOf 5 1 t4a) (mtOf 5 1 t4a) _ _ _ _ _ (by have := HC10b.out; omega) (HA10b.out.below hq29) (HA14b.out.below hq29) (fun x hx => (HR10b.out x hx).below hq29) (fun x hx => (HR14b.out x hx).below hq29)
      rw [EQ30.out] at hc31
      refine hc31.mono ?_
      rintro e z32 ⟨rfl, hz32⟩
      have hq32 := below_trans hq29 hz32
      replace xa1_ := cell_keep xa1_ hz32
      replace xb1_ := cell_keep xb1_ hz32
      replace xa2_ := cell_keep xa2_ hz32
      replace xb2_ := cell_keep xb2_ hz32
      replace xa3_ := cell_keep xa3_ hz32
      replace xb3_ := cell_keep xb3_ hz32
      replace xa4_ := cell_keep xa4_ hz32
      replace xb4_ := cell_keep xb4_ hz32
      replace xa5_ := cell_keep xa5_ hz32
      replace xb5_ := cell_keep xb5_ hz32
      replace xa6_ := cell_keep xa6_ hz32
      replace xb6_ := cell_keep xb6_ hz32
      replace xa7_ := cell_keep xa7_ hz32
      replace xb7_ := cell_keep xb7_ hz32
      replace xa8_ := cell_keep xa8_ hz32
      replace xb8_ := cell_keep xb8_ hz32
      replace xa9_ := cell_keep xa9_ hz32
      replace xb9_ := cell_keep xb9_ hz32
      clear hc31 hz32
      have EQ33 := hid (show tyEq (mtOf 4 0 t4a) (mtOf 4 0 t4a) = true from tyEq_refl (mtOf 4 0 t4a))
      go_wp2_with fail
      have hc34 := implTypeSame (mtOf 4 0 t4a) (mtOf 4 0 t4a) _ _ _ _ _ (by have := HC20a.out; omega) (HA20a.out.below hq32) (HA24a.out.below hq32) (fun x hx => (HR20a.out x hx).below hq32) (fun x hx => (HR24a.out x hx).below hq32)
      rw [EQ33.out] at hc34
      refine hc34.mono ?_
      rintro e z35 ⟨rfl, hz35⟩
      have hq35 := below_trans hq32 hz35
      replace xa1_ := cell_keep xa1_ hz35
      replace xb1_ := cell_keep xb1_ hz35
      replace xa2_ := cell_keep xa2_ hz35
      replace xb2_ := cell_keep xb2_ hz35
      replace xa3_ := cell_keep xa3_ hz35
      replace xb3_ := cell_keep xb3_ hz35
      replace xa4_ := cell_keep xa4_ hz35
      replace xb4_ := cell_keep xb4_ hz35
      replace xa5_ := cell_keep xa5_ hz35
      replace xb5_ := cell_keep xb5_ hz35
      replace xa6_ := cell_keep xa6_ hz35
      replace xb6_ := cell_keep xb6_ hz35
      replace xa7_ := cell_keep xa7_ hz35
      replace xb7_ := cell_keep xb7_ hz35
      replace xa8_ := cell_keep xa8_ hz35
      replace xb8_ := cell_keep xb8_ hz35
      replace xa9_ := cell_keep xa9_ hz35
      replace xb9_ := cell_keep xb9_ hz35
      clear hc34 hz35
      have EQ36 := hid (show tyEq (mtOf 4 1 t4a) (mtOf 4 1 t4a) = true from tyEq_refl (mtOf 4 1 t4a))
      go_wp2_with fail
      have hc37 := implTypeSame (mtOf 4 1 t4a) (mtOf 4 1 t4a) _ _ _ _ _ (by have := HC20b.out; omega) (HA20b.out.below hq35) (HA24b.out.below hq35) (fun x hx => (HR20b.out x hx).below hq35) (fun x hx => (HR24b.out x hx).below hq35)
      rw [EQ36.out] at hc37
      refine hc37.mono ?_
      rintro e z38 ⟨rfl, hz38⟩
      have hq38 := below_trans hq35 hz38
      replace xa1_ := cell_keep xa1_ hz38
      replace xb1_ := cell_keep xb1_ hz38
      replace xa2_ := cell_keep xa2_ hz38
      replace xb2_ := cell_keep xb2_ hz38
      replace xa3_ := cell_keep xa3_ hz38
      replace xb3_ := cell_keep xb3_ hz38
      replace xa4_ := cell_keep xa4_ hz38
      replace xb4_ := cell_keep xb4_ hz38
      replace xa5_ := cell_keep xa5_ hz38
      replace xb5_ := cell_keep xb5_ hz38
      replace xa6_ := cell_keep xa6_ hz38
      replace xb6_ := cell_keep xb6_ hz38
      replace xa7_ := cell_keep xa7_ hz38
      replace xb7_ := cell_keep xb7_ hz38
      replace xa8_ := cell_keep xa8_ hz38
      replace xb8_ := cell_keep xb8_ hz38
      replace xa9_ := cell_keep xa9_ hz38
      replace xb9_ := cell_keep xb9_ hz38
      clear hc37 hz38
      have hba41 : Below z38.heap.size z38 (z38.alloc (Obj.cells #[.int .i64 1, .slice none 0 0] 25)) := ((Below.refl _ _).alloc (Nat.le_refl _) _)
      have hbb41 := hba41
      have hbc41 := below_trans hq38 hbb41
      replace HA4a := hid (HA4a.out.below hbc41)
      replace HR4a := hid (fun x hx => (HR4a.out x hx).below hbc41)
      replace HA10a := hid (HA10a.out.below hbc41)
      replace HR10a := hid (fun x hx => (HR10a.out x hx).below hbc41)
      replace HA10b := hid (HA10b.out.below hbc41)
      replace HR10b := hid (fun x hx => (HR10b.out x hx).below hbc41)
      replace HA14a := hid (HA14a.out.below hbc41)
      replace HR14a := hid (fun x hx => (HR14a.out x hx).below hbc41)
      replace HA14b := hid (HA14b.out.below hbc41)
      replace HR14b := hid (fun x hx => (HR14b.out x hx).below hbc41)
      replace HA20a := hid (HA20a.out.below hbc41)
      replace HR20a := hid (fun x hx => (HR20a.out x hx).below hbc41)
      replace HA20b := hid (HA20b.out.below hbc41)
      replace HR20b := hid (fun x hx => (HR20b.out x hx).below hbc41)
      replace HA24a := hid (HA24a.out.below hbc41)
      replace HR24a := hid (fun x hx => (HR24a.out x hx).below hbc41)
      replace HA24b := hid (HA24b.out.below hbc41)
      replace HR24b := hid (fun x hx => (HR24b.out x hx).below hbc41)
      replace HBL := hid (below_trans HBL.out hbc41)
      replace xa1_ := cell_keep xa1_ hbb41
      replace xb1_ := cell_keep xb1_ hbb41
      replace xa2_ := cell_keep xa2_ hbb41
      replace xb2_ := cell_keep xb2_ hbb41
      replace xa3_ := cell_keep xa3_ hbb41
      replace xb3_ := cell_keep xb3_ hbb41
      replace xa4_ := cell_keep xa4_ hbb41
      replace xb4_ := cell_keep xb4_ hbb41
      replace xa5_ := cell_keep xa5_ hbb41
      replace xb5_ := cell_keep xb5_ hbb41
      replace xa6_ := cell_keep xa6_ hbb41
      replace xb6_ := cell_keep xb6_ hbb41
      replace xa7_ := cell_keep xa7_ hbb41
      replace xb7_ := cell_keep xb7_ hbb41
      replace xa8_ := cell_keep xa8_ hbb41
      replace xb8_ := cell_keep xb8_ hbb41
      replace xa9_ := cell_keep xa9_ hbb41
      replace xb9_ := cell_keep xb9_ hbb41
      have hl41 := lay1 z38 (Obj.cells #[.int .i64 1, .slice none 0 0] 25)
      have HAL40 := hid (show Ty.At (z38.alloc (Obj.cells #[.int .i64 1, .slice none 0 0] 25)) (.mk 1 []) (.agg #[.int .i64 1, .slice none 0 0]) [] from Ty.at_mk.2 ⟨_, rfl, .inl ⟨rfl, rfl, _, _, rfl⟩⟩)
      have HRL40 := hid (show ∀ x ∈ ([] : List Nat), Raw (z38.alloc (Obj.cells #[.int .i64 1, .slice none 0 0] 25)) x from fun x hx => by cases hx)
      have HCL40 := hid (show ((.mk 1 []) : Ty).cnt ≤ 0 from by simp [Ty.cnt, cntL])
      have xa10_ : ((z38.alloc (Obj.cells #[.int .i64 1, .slice none 0 0] 25))).cell? ⟨z38.heap.size, 0, none⟩ = some (.int .i64 1) := by rw [cell_of_block (hl41)]; rfl
      have xb10_ : ((z38.alloc (Obj.cells #[.int .i64 1, .slice none 0 0] 25))).cell? ⟨z38.heap.size, 1, none⟩ = some (.slice none 0 0) := by rw [cell_of_block (hl41)]; rfl
      have h041 := Below.refl ((z38.alloc (Obj.cells #[.int .i64 1, .slice none 0 0] 25))).heap.size (z38.alloc (Obj.cells #[.int .i64 1, .slice none 0 0] 25))
      clear hba41 hbb41 hbc41 hl41
      have hba44 : Below ((z38.alloc (Obj.cells #[.int .i64 1, .slice none 0 0] 25))).heap.size (z38.alloc (Obj.cells #[.int .i64 1, .slice none 0 0] 25)) (((z38.alloc (Obj.cells #[.int .i64 1, .slice none 0 0] 25)).alloc (Obj.cells #[.int .i64 1, .slice none 0 0, .int .i64 1, .slice none 0 0] 25)).alloc (Obj.cells #[.int .i64 5, .slice (some ⟨z38.heap.size + 1, 0, none⟩) 2 2] 25)) := (((Below.refl _ _).alloc (Nat.le_refl _) _).alloc (by simp) _)
      have hbb44 := hba44
      have hbc44 := below_trans h041 hbb44
      replace HA4a := hid (HA4a.out.below hbc44)
      replace HR4a := hid (fun x hx => (HR4a.out x hx).below hbc44)
      replace HA10a := hid (HA10a.out.below hbc44)
      replace HR10a := hid (fun x hx => (HR10a.out x hx).below hbc44)
      replace HA10b := hid (HA10b.out.below hbc44)
      replace HR10b := hid (fun x hx => (HR10b.out x hx).below hbc44)
      replace HA14a := hid (HA14a.out.below hbc44)
      replace HR14a := hid (fun x hx => (HR14a.out x hx).below hbc44)
      replace HA14b := hid (HA14b.out.below hbc44)
      replace HR14b := hid (fun x hx => (HR14b.out x hx).below hbc44)
      replace HA20a := hid (HA20a.out.below hbc44)
      replace HR20a := hid (fun x hx => (HR20a.out x hx).below hbc44)
      replace HA20b := hid (HA20b.out.below hbc44)
      replace HR20b := hid (fun x hx => (HR20b.out x hx).below hbc44)
      replace HA24a := hid (HA24a.out.below hbc44)
      replace HR24a := hid (fun x hx => (HR24a.out x hx).below hbc44)
      replace HA24b := hid (HA24b.out.below hbc44)
      replace HR24b := hid (fun x hx => (HR24b.out x hx).below hbc44)
      replace HAL40 := hid (HAL40.out.below hbc44)
      replace HRL40 := hid (fun x hx => (HRL40.out x hx).below hbc44)
      replace HBL := hid (below_trans HBL.out hbc44)
      replace xa1_ := cell_keep xa1_ hbb44
      replace xb1_ := cell_keep xb1_ hbb44
      replace xa2_ := cell_keep xa2_ hbb44
      replace xb2_ := cell_keep xb2_ hbb44
      replace xa3_ := cell_keep xa3_ hbb44
      replace xb3_ := cell_keep xb3_ hbb44
      replace xa4_ := cell_keep xa4_ hbb44
      replace xb4_ := cell_keep xb4_ hbb44
      replace xa5_ := cell_keep xa5_ hbb44
      replace xb5_ := cell_keep xb5_ hbb44
      replace xa6_ := cell_keep xa6_ hbb44
      replace xb6_ := cell_keep xb6_ hbb44
      replace xa7_ := cell_keep xa7_ hbb44
      replace xb7_ := cell_keep xb7_ hbb44
      replace xa8_ := cell_keep xa8_ hbb44
      replace xb8_ := cell_keep xb8_ hbb44
      replace xa9_ := cell_keep xa9_ hbb44
      replace xb9_ := cell_keep xb9_ hbb44
      replace xa10_ := cell_keep xa10_ hbb44
      replace xb10_ := cell_keep xb10_ hbb44
      have hl44 := lay2 ((z38.alloc (Obj.cells #[.int .i64 1, .slice none 0 0] 25))) (Obj.cells #[.int .i64 1, .slice none 0 0, .int .i64 1, .slice none 0 0] 25) (Obj.cells #[.int .i64 5, .slice (some ⟨z38.heap.size + 1, 0, none⟩) 2 2] 25)
      have hsz44 : ((z38.alloc (Obj.cells #[.int .i64 1, .slice none 0 0] 25))).heap.size = z38.heap.size + 1 := by simp
      rw [hsz44] at hl44
      clear hsz44
      have HAL43 := hid (show Ty.At (((z38.alloc (Obj.cells #[.int .i64 1, .slice none 0 0] 25)).alloc (Obj.cells #[.int .i64 1, .slice none 0 0, .int .i64 1, .slice none 0 0] 25)).alloc (Obj.cells #[.int .i64 5, .slice (some ⟨z38.heap.size + 1, 0, none⟩) 2 2] 25)) (.mk 5 [.mk 1 [], .mk 1 []]) (.agg #[.int .i64 5, .slice (some ⟨z38.heap.size + 1, 0, none⟩) 2 2]) _ from Ty.at_mk.2 ⟨_, rfl, .inr ⟨z38.heap.size + 1, 0, 2, _, rfl, by simp, by simp, by simp [maxLen], ⟨_, _, _, _, by rw [cell_of_block hl44.1]; rfl, by rw [cell_of_block hl44.1]; rfl, HAL40.out, ⟨_, _, _, [], by rw [cell_of_block hl44.1]; rfl, by rw [cell_of_block hl44.1]; rfl, HAL40.out, rfl, rfl⟩, rfl⟩, rfl⟩⟩)
      have HCL43 := hid (show ((.mk 5 [.mk 1 [], .mk 1 []]) : Ty).cnt ≤ 2 from (by have := HCL40.out; have := HCL40.out; simp only [Ty.cnt, cntL, List.length_cons, List.length_nil] at *; omega))
      have xa11_ : ((((z38.alloc (Obj.cells #[.int .i64 1, .slice none 0 0] 25)).alloc (Obj.cells #[.int .i64 1, .slice none 0 0, .int .i64 1, .slice none 0 0] 25)).alloc (Obj.cells #[.int .i64 5, .slice (some ⟨z38.heap.size + 1, 0, none⟩) 2 2] 25))).cell? ⟨z38.heap.size + 1 + 1, 0, none⟩ = some (.int .i64 5) := by rw [cell_of_block (hl44.2)]; rfl
      have xb11_ : ((((z38.alloc (Obj.cells #[.int .i64 1, .slice none 0 0] 25)).alloc (Obj.cells #[.int .i64 1, .slice none 0 0, .int .i64 1, .slice none 0 0] 25)).alloc (Obj.cells #[.int .i64 5, .slice (some ⟨z38.heap.size + 1, 0, none⟩) 2 2] 25))).cell? ⟨z38.heap.size + 1 + 1, 1, none⟩ = some (.slice (some ⟨z38.heap.size + 1, 0, none⟩) 2 2) := by rw [cell_of_block (hl44.2)]; rfl
      have h044 := Below.refl ((((z38.alloc (Obj.cells #[.int .i64 1, .slice none 0 0] 25)).alloc (Obj.cells #[.int .i64 1, .slice none 0 0, .int .i64 1, .slice none 0 0] 25)).alloc (Obj.cells #[.int .i64 5, .slice (some ⟨z38.heap.size + 1, 0, none⟩) 2 2] 25))).heap.size (((z38.alloc (Obj.cells #[.int .i64 1, .slice none 0 0] 25)).alloc (Obj.cells #[.int .i64 1, .slice none 0 0, .int .i64 1, .slice none 0 0] 25)).alloc (Obj.cells #[.int .i64 5, .slice (some ⟨z38.heap.size + 1, 0, none⟩) 2 2] 25))
      clear hba44 hbb44 hbc44 hl44
      have hba47 : Below ((((z38.alloc (Obj.cells #[.int .i64 1, .slice none 0 0] 25)).alloc (Obj.cells #[.int .i64 1, .slice none 0 0, .int .i64 1, .slice none 0 0] 25)).alloc (Obj.cells #[.int .i64 5, .slice (some ⟨z38.heap.size + 1, 0, none⟩) 2 2] 25))).heap.size (((z38.alloc (Obj.cells #[.int .i64 1, .slice none 0 0] 25)).alloc (Obj.cells #[.int .i64 1, .slice none 0 0, .int .i64 1, .slice none 0 0] 25)).alloc (Obj.cells #[.int .i64 5, .slice (some ⟨z38.heap.size + 1, 0, none⟩) 2 2] 25)) (((((z38.alloc (Obj.cells #[.int .i64 1, .slice none 0 0] 25)).alloc (Obj.cells #[.int .i64 1, .slice none 0 0, .int .i64 1, .slice none 0 0] 25)).alloc (Obj.cells #[.int .i64 5, .slice (some ⟨z38.heap.size + 1, 0, none⟩) 2 2] 25)).alloc (Obj.cells #[.int .i64 1, .slice none 0 0, .int .i64 1, .slice none 0 0] 25)).alloc (Obj.cells #[.int .i64 4, .slice (some ⟨z38.heap.size + 1 + 1 + 1, 0, none⟩) 2 2] 25)) := (((Below.refl _ _).alloc (Nat.le_refl _) _).alloc (by simp) _)
      have hbb47 := hba47
      have hbc47 := below_trans h044 hbb47
      replace HA4a := hid (HA4a.out.below hbc47)
      replace HR4a := hid (fun x hx => (HR4a.out x hx).below hbc47)
      replace HA10a := hid (HA10a.out.below hbc47)
      replace HR10a := hid (fun x hx => (HR10a.out x hx).below hbc47)
      replace HA10b := hid (HA10b.out.below hbc47)
      replace HR10b := hid (fun x hx => (HR10b.out x hx).below hbc47)
      replace HA14a := hid (HA14a.out.below hbc47)
      replace HR14a := hid (fun x hx => (HR14a.out x hx).below hbc47)
      replace HA14b := hid (HA14b.out.below hbc47)
      replace HR14b := hid (fun x hx => (HR14b.out x hx).below hbc47)
      replace HA20a := hid (HA20a.out.below hbc47)
      replace HR20a := hid (fun x hx => (HR20a.out x hx).below hbc47)
      replace HA20b := hid (HA20b.out.below hbc47)
      replace HR20b := hid (fun x hx => (HR20b.out x hx).below hbc47)
      replace HA24a := hid (HA24a.out.below hbc47)
      replace HR24a := hid (fun x hx => (HR24a.out x hx).below hbc47)
      replace HA24b := hid (HA24b.out.below hbc47)
      replace HR24b := hid (fun x hx => (HR24b.out x hx).below hbc47)
      replace HAL40 := hid (HAL40.out.below hbc47)
      replace HRL40 := hid (fun x hx => (HRL40.out x hx).below hbc47)
      replace HAL43 := hid (HAL43.out.below hbc47)
      replace HBL := hid (below_trans HBL.out hbc47)
      replace xa1_ := cell_keep xa1_ hbb47
      replace xb1_ := cell_keep xb1_ hbb47
      replace xa2_ := cell_keep xa2_ hbb47
      replace xb2_ := cell_keep xb2_ hbb47
      replace xa3_ := cell_keep xa3_ hbb47
      replace xb3_ := cell_keep xb3_ hbb47
      replace xa4_ := cell_keep xa4_ hbb47
      replace xb4_ := cell_keep xb4_ hbb47
      replace xa5_ := cell_keep xa5_ hbb47
      replace xb5_ := cell_keep xb5_ hbb47
      replace xa6_ := cell_keep xa6_ hbb47
      replace xb6_ := cell_keep xb6_ hbb47
      replace xa7_ := cell_keep xa7_ hbb47
      replace xb7_ := cell_keep xb7_ hbb47
      replace xa8_ := cell_keep xa8_ hbb47
      replace xb8_ := cell_keep xb8_ hbb47
      replace xa9_ := cell_keep xa9_ hbb47
      replace xb9_ := cell_keep xb9_ hbb47
      replace xa10_ := cell_keep xa10_ hbb47
      replace xb10_ := cell_keep xb10_ hbb47
      replace xa11_ := cell_keep xa11_ hbb47
      replace xb11_ := cell_keep xb11_ hbb47
      have hl47 := lay2 ((((z38.alloc (Obj.cells #[.int .i64 1, .slice none 0 0] 25)).alloc (Obj.cells #[.int .i64 1, .slice none 0 0, .int .i64 1, .slice none 0 0] 25)).alloc (Obj.cells #[.int .i64 5, .slice (some ⟨z38.heap.size + 1, 0, none⟩) 2 2] 25))) (Obj.cells #[.int .i64 1, .slice none 0 0, .int .i64 1, .slice none 0 0] 25) (Obj.cells #[.int .i64 4, .slice (some ⟨z38.heap.size + 1 + 1 + 1, 0, none⟩) 2 2] 25)
      have hsz47 : ((((z38.alloc (Obj.cells #[.int .i64 1, .slice none 0 0] 25)).alloc (Obj.cells #[.int .i64 1, .slice none 0 0, .int .i64 1, .slice none 0 0] 25)).alloc (Obj.cells #[.int .i64 5, .slice (some ⟨z38.heap.size + 1, 0, none⟩) 2 2] 25))).heap.size = z38.heap.size + 1 + 1 + 1 := by simp
      rw [hsz47] at hl47
      clear hsz47
      have HAL46 := hid (show Ty.At (((((z38.alloc (Obj.cells #[.int .i64 1, .slice none 0 0] 25)).alloc (Obj.cells #[.int .i64 1, .slice none 0 0, .int .i64 1, .slice none 0 0] 25)).alloc (Obj.cells #[.int .i64 5, .slice (some ⟨z38.heap.size + 1, 0, none⟩) 2 2] 25)).alloc (Obj.cells #[.int .i64 1, .slice none 0 0, .int .i64 1, .slice none 0 0] 25)).alloc (Obj.cells #[.int .i64 4, .slice (some ⟨z38.heap.size + 1 + 1 + 1, 0, none⟩) 2 2] 25)) (.mk 4 [.mk 1 [], .mk 1 []]) (.agg #[.int .i64 4, .slice (some ⟨z38.heap.size + 1 + 1 + 1, 0, none⟩) 2 2]) _ from Ty.at_mk.2 ⟨_, rfl, .inr ⟨z38.heap.size + 1 + 1 + 1, 0, 2, _, rfl, by simp, by simp, by simp [maxLen], ⟨_, _, _, _, by rw [cell_of_block hl47.1]; rfl, by rw [cell_of_block hl47.1]; rfl, HAL40.out, ⟨_, _, _, [], by rw [cell_of_block hl47.1]; rfl, by rw [cell_of_block hl47.1]; rfl, HAL40.out, rfl, rfl⟩, rfl⟩, rfl⟩⟩)
      have HCL46 := hid (show ((.mk 4 [.mk 1 [], .mk 1 []]) : Ty).cnt ≤ 2 from (by have := HCL40.out; have := HCL40.out; simp only [Ty.cnt, cntL, List.length_cons, List.length_nil] at *; omega))
      have xa12_ : ((((((z38.alloc (Obj.cells #[.int .i64 1, .slice none 0 0] 25)).alloc (Obj.cells #[.int .i64 1, .slice none 0 0, .int .i64 1, .slice none 0 0] 25)).alloc (Obj.cells #[.int .i64 5, .slice (some ⟨z38.heap.size + 1, 0, none⟩) 2 2] 25)).alloc (Obj.cells #[.int .i64 1, .slice none 0 0, .int .i64 1, .slice none 0 0] 25)).alloc (Obj.cells #[.int .i64 4, .slice (some ⟨z38.heap.size + 1 + 1 + 1, 0, none⟩) 2 2] 25))).cell? ⟨z38.heap.size + 1 + 1 + 1 + 1, 0, none⟩ = some (.int .i64 4) := by rw [cell_of_block (hl47.2)]; rfl
      have xb12_ : ((((((z38.alloc (Obj.cells #[.int .i64 1, .slice none 0 0] 25)).alloc (Obj.cells #[.int .i64 1, .slice none 0 0, .int .i64 1, .slice none 0 0] 25)).alloc (Obj.cells #[.int .i64 5, .slice (some ⟨z38.heap.size + 1, 0, none⟩) 2 2] 25)).alloc (Obj.cells #[.int .i64 1, .slice none 0 0, .int .i64 1, .slice none 0 0] 25)).alloc (Obj.cells #[.int .i64 4, .slice (some ⟨z38.heap.size + 1 + 1 + 1, 0, none⟩) 2 2] 25))).cell? ⟨z38.heap.size + 1 + 1 + 1 + 1, 1, none⟩ = some (.slice (some ⟨z38.heap.size + 1 + 1 + 1, 0, none⟩) 2 2) := by rw [cell_of_block (hl47.2)]; rfl
      have h047 := Below.refl ((((((z38.alloc (Obj.cells #[.int .i64 1, .slice none 0 0] 25)).alloc (Obj.cells #[.int .i64 1, .slice none 0 0, .int .i64 1, .slice none 0 0] 25)).alloc (Obj.cells #[.int .i64 5, .slice (some ⟨z38.heap.size + 1, 0, none⟩) 2 2] 25)).alloc (Obj.cells #[.int .i64 1, .slice none 0 0, .int .i64 1, .slice none 0 0] 25)).alloc (Obj.cells #[.int .i64 4, .slice (some ⟨z38.heap.size + 1 + 1 + 1, 0, none⟩) 2 2] 25))).heap.size (((((z38.alloc (Obj.cells #[.int .i64 1, .slice none 0 0] 25)).alloc (Obj.cells #[.int .i64 1, .slice none 0 0, .int .i64 1, .slice none 0 0] 25)).alloc (Obj.cells #[.int .i64 5, .slice (some ⟨z38.heap.size + 1, 0, none⟩) 2 2] 25)).alloc (Obj.cells #[.int .i64 1, .slice none 0 0, .int .i64 1, .slice none 0 0] 25)).alloc (Obj.cells #[.int .i64 4, .slice (some ⟨z38.heap.size + 1 + 1 + 1, 0, none⟩) 2 2] 25))
      clear hba47 hbb47 hbc47 hl47
      have EQ49 := hid (show consOf t4a (.mk 5 [.mk 1 [], .mk 1 []]) = true from (by rw [← mt_cons 5 (by omega) t4a]; exact EQ7.out))
      go_wp2_with fail
      have hc50 := implConsistent t4a (.mk 5 [.mk 1 [], .mk 1 []]) _ _ _ _ _ (HA4a.out.below h047) (HAL43.out.below h047)
      rw [EQ49.out] at hc50
      refine hc50.mono ?_
      rintro e z51 ⟨rfl, hz51⟩
      have hq51 := below_trans h047 hz51
      replace xa1_ := cell_keep xa1_ hz51
      replace xb1_ := cell_keep xb1_ hz51
      replace xa2_ := cell_keep xa2_ hz51
      replace xb2_ := cell_keep xb2_ hz51
      replace xa3_ := cell_keep xa3_ hz51
      replace xb3_ := cell_keep xb3_ hz51
      replace xa4_ := cell_keep xa4_ hz51
      replace xb4_ := cell_keep xb4_ hz51
      replace xa5_ := cell_keep xa5_ hz51
      replace xb5_ := cell_keep xb5_ hz51
      replace xa6_ := cell_keep xa6_ hz51
      replace xb6_ := cell_keep xb6_ hz51
      replace xa7_ := cell_keep xa7_ hz51
      replace xb7_ := cell_keep xb7_ hz51
      replace xa8_ := cell_keep xa8_ hz51
      replace xb8_ := cell_keep xb8_ hz51
      replace xa9_ := cell_keep xa9_ hz51
      replace xb9_ := cell_keep xb9_ hz51
      replace xa10_ := cell_keep xa10_ hz51
      replace xb10_ := cell_keep xb10_ hz51
      replace xa11_ := cell_keep xa11_ hz51
      replace xb11_ := cell_keep xb11_ hz51
      replace xa12_ := cell_keep xa12_ hz51
      replace xb12_ := cell_keep xb12_ hz51
      clear hc50 hz51
      have EQ52 := hid (show consOf t4a (.mk 4 [.mk 1 [], .mk 1 []]) = true from (by rw [← mt_cons 4 (by omega) t4a]; exact EQ17.out))
      go_wp2_with fail
      have hc53 := implConsistent t4a (.mk 4 [.mk 1 [], .mk 1 []]) _ _ _ _ _ (HA4a.out.below hq51) (HAL46.out.below hq51)
      rw [EQ52.out] at hc53
      refine hc53.mono ?_
      rintro e z54 ⟨rfl, hz54⟩
      have hq54 := below_trans hq51 hz54
      replace xa1_ := cell_keep xa1_ hz54
      replace xb1_ := cell_keep xb1_ hz54
      replace xa2_ := cell_keep xa2_ hz54
      replace xb2_ := cell_keep xb2_ hz54
      replace xa3_ := cell_keep xa3_ hz54
      replace xb3_ := cell_keep xb3_ hz54
      replace xa4_ := cell_keep xa4_ hz54
      replace xb4_ := cell_keep xb4_ hz54
      replace xa5_ := cell_keep xa5_ hz54
      replace xb5_ := cell_keep xb5_ hz54
      replace xa6_ := cell_keep xa6_ hz54
      replace xb6_ := cell_keep xb6_ hz54
      replace xa7_ := cell_keep xa7_ hz54
      replace xb7_ := cell_keep xb7_ hz54
      replace xa8_ := cell_keep xa8_ hz54
      replace xb8_ := cell_keep xb8_ hz54
      replace xa9_ := cell_keep xa9_ hz54
      replace xb9_ := cell_keep xb9_ hz54
      replace xa10_ := cell_keep xa10_ hz54
      replace xb10_ := cell_keep xb10_ hz54
      replace xa11_ := cell_keep xa11_ hz54
      replace xb11_ := cell_keep xb11_ hz54
      replace xa12_ := cell_keep xa12_ hz54
      replace xb12_ := cell_keep xb12_ hz54
      clear hc53 hz54
      go_wp2_with fail
      go_ret
      exact ⟨rfl, below_trans HBL.out hq54⟩
    · have EQ17 := hid hq17
      clear hq17
      go_wp2_with fail
      have hc56 := implMatchFun t4a _ _ _ (HA4a.out.below h015) (by have := HC4a.out; omega)
      rw [EQ17.out] at hc56
      refine hc56.mono ?_
      rintro e z57 ⟨v57a, v57b, f57a, f57b, M57, rfl, ht57a, ht57b, hf57a, hf57b, -, -, -, -, hz57⟩
      obtain ⟨k57a, n57a, a57a, c57a, rfl⟩ := ht57a.agg
      obtain ⟨k57b, n57b, a57b, c57b, rfl⟩ := ht57b.agg
      clear hc56
      have hba58 : Below z57.heap.size z57 ((z57.alloc (Obj.cells #[.int .i64 k57a, .slice a57a n57a c57a] 25)).alloc (Obj.cells #[.int .i64 k57b, .slice a57b n57b c57b] 25)) := (((Below.refl _ _).alloc (Nat.le_refl _) _).alloc (by simp) _)
      have hbb58 := below_trans hz57 hba58
      have hbc58 := below_trans h015 hbb58
      replace HA4a := hid (HA4a.out.below hbc58)
      replace HR4a := hid (fun x hx => (HR4a.out x hx).below hbc58)
      replace HA10a := hid (HA10a.out.below hbc58)
      replace HR10a := hid (fun x hx => (HR10a.out x hx).below hbc58)
      replace HA10b := hid (HA10b.out.below hbc58)
      replace HR10b := hid (fun x hx => (HR10b.out x hx).below hbc58)
      replace HA14a := hid (HA14a.out.below hbc58)
      replace HR14a := hid (fun x hx => (HR14a.out x hx).below hbc58)
      replace HA14b := hid (HA14b.out.below hbc58)
      replace HR14b := hid (fun x hx => (HR14b.out x hx).below hbc58)
      replace HBL := hid (below_trans HBL.out hbc58)
      replace xa1_ := cell_keep xa1_ hbb58
      replace xb1_ := cell_keep xb1_ hbb58
      replace xa2_ := cell_keep xa2_ hbb58
      replace xb2_ := cell_keep xb2_ hbb58
      replace xa3_ := cell_keep xa3_ hbb58
      replace xb3_ := cell_keep xb3_ hbb58
      replace xa4_ := cell_keep xa4_ hbb58
      replace xb4_ := cell_keep xb4_ hbb58
      replace xa5_ := cell_keep xa5_ hbb58
      replace xb5_ := cell_keep xb5_ hbb58
      have hl58 := lay2 z57 (Obj.cells #[.int .i64 k57a, .slice a57a n57a c57a] 25) (Obj.cells #[.int .i64 k57b, .slice a57b n57b c57b] 25)
      have HA57a := hid (ht57a.below hba58)
      have HR57a := hid (show ∀ x ∈ f57a, Raw ((z57.alloc (Obj.cells #[.int .i64 k57a, .slice a57a n57a c57a] 25)).alloc (Obj.cells #[.int .i64 k57b, .slice a57b n57b c57b] 25)) x from fun x hx => Raw.below (Fresh.raw ht57a hf57a x hx) hba58)
      have HC57a := hid (show ((mtOf 4 0 t4a) : Ty).cnt ≤ 100 from (Nat.le_trans (by have := mt_cnt 4 (by omega) t4a; omega) HC4a.out))
      have HA57b := hid (ht57b.below hba58)
      have HR57b := hid (show ∀ x ∈ f57b, Raw ((z57.alloc (Obj.cells #[.int .i64 k57a, .slice a57a n57a c57a] 25)).alloc (Obj.cells #[.int .i64 k57b, .slice a57b n57b c57b] 25)) x from fun x hx => Raw.below (Fresh.raw ht57b hf57b x hx) hba58)
      have HC57b := hid (show ((mtOf 4 1 t4a) : Ty).cnt ≤ 100 from (Nat.le_trans (by have := mt_cnt 4 (by omega) t4a; omega) HC4a.out))
      have xa13_ : (((z57.alloc (Obj.cells #[.int .i64 k57a, .slice a57a n57a c57a] 25)).alloc (Obj.cells #[.int .i64 k57b, .slice a57b n57b c57b] 25))).cell? ⟨z57.heap.size, 0, none⟩ = some (.int .i64 k57a) := by rw [cell_of_block (hl58.1)]; rfl
      have xb13_ : (((z57.alloc (Obj.cells #[.int .i64 k57a, .slice a57a n57a c57a] 25)).alloc (Obj.cells #[.int .i64 k57b, .slice a57b n57b c57b] 25))).cell? ⟨z57.heap.size, 1, none⟩ = some (.slice a57a n57a c57a) := by rw [cell_of_block (hl58.1)]; rfl
      have xa14_ : (((z57.alloc (Obj.cells #[.int .i64 k57a, .slice a57a n57a c57a] 25)).alloc (Obj.cells #[.int .i64 k57b, .slice a57b n57b c57b] 25))).cell? ⟨z57.heap.size + 1, 0, none⟩ = some (.int .i64 k57b) := by rw [cell_of_block (hl58.2)]; rfl
      have xb14_ : (((z57.alloc (Obj.cells #[.int .i64 k57a, .slice a57a n57a c57a] 25)).alloc (Obj.cells #[.int .i64 k57b, .slice a57b n57b c57b] 25))).cell? ⟨z57.heap.size + 1, 1, none⟩ = some (.slice a57b n57b c57b) := by rw [cell_of_block (hl58.2)]; rfl
      have h058 := Below.refl (((z57.alloc (Obj.cells #[.int .i64 k57a, .slice a57a n57a c57a] 25)).alloc (Obj.cells #[.int .i64 k57b, .slice a57b n57b c57b] 25))).heap.size ((z57.alloc (Obj.cells #[.int .i64 k57a, .slice a57a n57a c57a] 25)).alloc (Obj.cells #[.int .i64 k57b, .slice a57b n57b c57b] 25))
      clear ht57a
      clear ht57b
      clear hba58 hbb58 hbc58 hl58 hz57
      go_wp2_with fail
      have hc60 := specMatchFun t4a _ _ _ (HA4a.out.below h058) (by have := HC4a.out; omega)
      rw [EQ17.out] at hc60
      refine hc60.mono ?_
      rintro e z61 ⟨v61a, v61b, f61a, f61b, M61, rfl, ht61a, ht61b, hf61a, hf61b, -, -, -, -, hz61⟩
      obtain ⟨k61a, n61a, a61a, c61a, rfl⟩ := ht61a.agg
      obtain ⟨k61b, n61b, a61b, c61b, rfl⟩ := ht61b.agg
      clear hc60
      have hba62 : Below z61.heap.size z61 ((z61.alloc (Obj.cells #[.int .i64 k61a, .slice a61a n61a c61a] 25)).alloc (Obj.cells #[.int .i64 k61b, .slice a61b n61b c61b] 25)) := (((Below.refl _ _).alloc (Nat.le_refl _) _).alloc (by simp) _)
      have hbb62 := below_trans hz61 hba62
      have hbc62 := below_trans h058 hbb62
      replace HA4a := hid (HA4a.out.below hbc62)
      replace HR4a := hid (fun x hx => (HR4a.out x hx).below hbc62)
      replace HA10a := hid (HA10a.out.below hbc62)
      replace HR10a := hid (fun x hx => (HR10a.out x hx).below hbc62)
      replace HA10b := hid (HA10b.out.below hbc62)
      replace HR10b := hid (fun x hx => (HR10b.out x hx).below hbc62)
      replace HA14a := hid (HA14a.out.below hbc62)
      replace HR14a := hid (fun x hx => (HR14a.out x hx).below hbc62)
      replace HA14b := hid (HA14b.out.below hbc62)
      replace HR14b := hid (fun x hx => (HR14b.out x hx).below hbc62)
      replace HA57a := hid (HA57a.out.below hbc62)
      replace HR57a := hid (fun x hx => (HR57a.out x hx).below hbc62)
      replace HA57b := hid (HA57b.out.below hbc62)
      replace HR57b := hid (fun x hx => (HR57b.out x hx).below hbc62)
      replace HBL := hid (below_trans HBL.out hbc62)
      replace xa1_ := cell_keep xa1_ hbb62
      replace xb1_ := cell_keep xb1_ hbb62
      replace xa2_ := cell_keep xa2_ hbb62
      replace xb2_ := cell_keep xb2_ hbb62
      replace xa3_ := cell_keep xa3_ hbb62
      replace xb3_ := cell_keep xb3_ hbb62
      replace xa4_ := cell_keep xa4_ hbb62
      replace xb4_ := cell_keep xb4_ hbb62
      replace xa5_ := cell_keep xa5_ hbb62
      replace xb5_ := cell_keep xb5_ hbb62
      replace xa13_ := cell_keep xa13_ hbb62
      replace xb13_ := cell_keep xb13_ hbb62
      replace xa14_ := cell_keep xa14_ hbb62
      replace xb14_ := cell_keep xb14_ hbb62
      have hl62 := lay2 z61 (Obj.cells #[.int .i64 k61a, .slice a61a n61a c61a] 25) (Obj.cells #[.int .i64 k61b, .slice a61b n61b c61b] 25)
      have HA61a := hid (ht61a.below hba62)
      have HR61a := hid (show ∀ x ∈ f61a, Raw ((z61.alloc (Obj.cells #[.int .i64 k61a, .slice a61a n61a c61a] 25)).alloc (Obj.cells #[.int .i64 k61b, .slice a61b n61b c61b] 25)) x from fun x hx => Raw.below (Fresh.raw ht61a hf61a x hx) hba62)
      have HC61a := hid (show ((mtOf 4 0 t4a) : Ty).cnt ≤ 100 from (Nat.le_trans (by have := mt_cnt 4 (by omega) t4a; omega) HC4a.out))
      have HA61b := hid (ht61b.below hba62)
      have HR61b := hid (show ∀ x ∈ f61b, Raw ((z61.alloc (Obj.cells #[.int .i64 k61a, .slice a61a n61a c61a] 25)).alloc (Obj.cells #[.int .i64 k61b, .slice a61b n61b c61b] 25)) x from fun x hx => Raw.below (Fresh.raw ht61b hf61b x hx) hba62)
      have HC61b := hid (show ((mtOf 4 1 t4a) : Ty).cnt ≤ 100 from (Nat.le_trans (by have := mt_cnt 4 (by omega) t4a; omega) HC4a.out))
      have xa15_ : (((z61.alloc (Obj.cells #[.int .i64 k61a, .slice a61a n61a c61a] 25)).alloc (Obj.cells #[.int .i64 k61b, .slice a61b n61b c61b] 25))).cell? ⟨z61.heap.size, 0, none⟩ = some (.int .i64 k61a) := by rw [cell_of_block (hl62.1)]; rfl
      have xb15_ : (((z61.alloc (Obj.cells #[.int .i64 k61a, .slice a61a n61a c61a] 25)).alloc (Obj.cells #[.int .i64 k61b, .slice a61b n61b c61b] 25))).cell? ⟨z61.heap.size, 1, none⟩ = some (.slice a61a n61a c61a) := by rw [cell_of_block (hl62.1)]; rfl
      have xa16_ : (((z61.alloc (Obj.cells #[.int .i64 k61a, .slice a61a n61a c61a] 25)).alloc (Obj.cells #[.int .i64 k61b, .slice a61b n61b c61b] 25))).cell? ⟨z61.heap.size + 1, 0, none⟩ = some (.int .i64 k61b) := by rw [cell_of_block (hl62.2)]; rfl
      have xb16_ : (((z61.alloc (Obj.cells #[.int .i64 k61a, .slice a61a n61a c61a] 25)).alloc (Obj.cells #[.int .i64 k61b, .slice a61b n61b c61b] 25))).cell? ⟨z61.heap.size + 1, 1, none⟩ = some (.slice a61b n61b c61b) := by rw [cell_of_block (hl62.2)]; rfl
      have h062 := Below.refl (((z61.alloc (Obj.cells #[.int .i64 k61a, .slice a61a n61a c61a] 25)).alloc (Obj.cells #[.int .i64 k61b, .slice a61b n61b c61b] 25))).heap.size ((z61.alloc (Obj.cells #[.int .i64 k61a, .slice a61a n61a c61a] 25)).alloc (Obj.cells #[.int .i64 k61b, .slice a61b n61b c61b] 25))
      clear ht61a
      clear ht61b
      clear hba62 hbb62 hbc62 hl62 hz61
      have EQ64 := hid (show tyEq (mtOf 5 0 t4a) (mtOf 5 0 t4a) = true from tyEq_refl (mtOf 5 0 t4a))
      go_wp2_with fail
      have hc65 := implTypeSame (mtOf 5 0 t4a) (mtOf 5 0 t4a) _ _ _ _ _ (by have := HC10a.out; omega) (HA10a.out.below h062) (HA14a.out.below h062) (fun x hx => (HR10a.out x hx).below h062) (fun x hx => (HR14a.out x hx).below h062)
      rw [EQ64.out] at hc65
      refine hc65.mono ?_
      rintro e z66 ⟨rfl, hz66⟩
      have hq66 := below_trans h062 hz66
      replace xa1_ := cell_keep xa1_ hz66
      replace xb1_ := cell_keep xb1_ hz66
      replace xa2_ := cell_keep xa2_ hz66
      replace xb2_ := cell_keep xb2_ hz66
      replace xa3_ := cell_keep xa3_ hz66
      replace xb3_ := cell_keep xb3_ hz66
      replace xa4_ := cell_keep xa4_ hz66
      replace xb4_ := cell_keep xb4_ hz66
      replace xa5_ := cell_keep xa5_ hz66
      replace xb5_ := cell_keep xb5_ hz66
      replace xa13_ := cell_keep xa13_ hz66
      replace xb13_ := cell_keep xb13_ hz66
      replace xa14_ := cell_keep xa14_ hz66
      replace xb14_ := cell_keep xb14_ hz66
      replace xa15_ := cell_keep xa15_ hz66
      replace xb15_ := cell_keep xb15_ hz66
      replace xa16_ := cell_keep xa16_ hz66
      replace xb16_ := cell_keep xb16_ hz66
      clear hc65 hz66
      have EQ67 := hid (show tyEq (mtOf 5 1 t4a) (mtOf 5 1 t4a) = true from tyEq_refl (mtOf 5 1 t4a))
      go_wp2_with fail
      have hc68 := implTypeSame (mtOf 5 1 t4a) (mtOf 5 1 t4a) _ _ _ _ _ (by have := HC10b.out; omega) (HA10b.out.below hq66) (HA14b.out.below hq66) (fun x hx => (HR10b.out x hx).below hq66) (fun x hx => (HR14b.out x hx).below hq66)
      rw [EQ67.out] at hc68
      refine hc68.mono ?_
      rintro e z69 ⟨rfl, hz69⟩
      have hq69 := below_trans hq66 hz69
      replace xa1_ := cell_keep xa1_ hz69
      replace xb1_ := cell_keep xb1_ hz69
      replace xa2_ := cell_keep xa2_ hz69
      replace xb2_ := cell_keep xb2_ hz69
      replace xa3_ := cell_keep xa3_ hz69
      replace xb3_ := cell_keep xb3_ hz69
      replace xa4_ := cell_keep xa4_ hz69
      replace xb4_ := cell_keep xb4_ hz69
      replace xa5_ := cell_keep xa5_ hz69
      replace xb5_ := cell_keep xb5_ hz69
      replace xa13_ := cell_keep xa13_ hz69
      replace xb13_ := cell_keep xb13_ hz69
      replace xa14_ := cell_keep xa14_ hz69
      replace xb14_ := cell_keep xb14_ hz69
      replace xa15_ := cell_keep xa15_ hz69
      replace xb15_ := cell_keep xb15_ hz69
      replace xa16_ := cell_keep xa16_ hz69
      replace xb16_ := cell_keep xb16_ hz69
      clear hc68 hz69
      have EQ70 := hid (show tyEq (mtOf 4 0 t4a) (mtOf 4 0 t4a) = true from tyEq_refl (mtOf 4 0 t4a))
      go_wp2_with fail
      have hc71 := implTypeSame (mtOf 4 0 t4a) (mtOf 4 0 t4a) _ _ _ _ _ (by have := HC57a.out; omega) (HA57a.out.below hq69) (HA61a.out.below hq69) (fun x hx => (HR57a.out x hx).below hq69) (fun x hx => (HR61a.out x hx).below hq69)
      rw [EQ70.out] at hc71
      refine hc71.mono ?_
      rintro e z72 ⟨rfl, hz72⟩
      have hq72 := below_trans hq69 hz72
      replace xa1_ := cell_keep xa1_ hz72
      replace xb1_ := cell_keep xb1_ hz72
      replace xa2_ := cell_keep xa2_ hz72
      replace xb2_ := cell_keep xb2_ hz72
      replace xa3_ := cell_keep xa3_ hz72
      replace xb3_ := cell_keep xb3_ hz72
      replace xa4_ := cell_keep xa4_ hz72
      replace xb4_ := cell_keep xb4_ hz72
      replace xa5_ := cell_keep xa5_ hz72
      replace xb5_ := cell_keep xb5_ hz72
      replace xa13_ := cell_keep xa13_ hz72
      replace xb13_ := cell_keep xb13_ hz72
      replace xa14_ := cell_keep xa14_ hz72
      replace xb14_ := cell_keep xb14_ hz72
      replace xa15_ := cell_keep xa15_ hz72
      replace xb15_ := cell_keep xb15_ hz72
      replace xa16_ := cell_keep xa16_ hz72
      replace xb16_ := cell_keep xb16_ hz72
      clear hc71 hz72
      have EQ73 := hid (show tyEq (mtOf 4 1 t4a) (mtOf 4 1 t4a) = true from tyEq_refl (mtOf 4 1 t4a))
      go_wp2_with fail
      have hc74 := implTypeSame (mtOf 4 1 t4a) (mtOf 4 1 t4a) _ _ _ _ _ (by have := HC57b.out; omega) (HA57b.out.below hq72) (HA61b.out.below hq72) (fun x hx => (HR57b.out x hx).below hq72) (fun x hx => (HR61b.out x hx).below hq72)
      rw [EQ73.out] at hc74
      refine hc74.mono ?_
      rintro e z75 ⟨rfl, hz75⟩
      have hq75 := below_trans hq72 hz75
      replace xa1_ := cell_keep xa1_ hz75
      replace xb1_ := cell_keep xb1_ hz75
      replace xa2_ := cell_keep xa2_ hz75
      replace xb2_ := cell_keep xb2_ hz75
      replace xa3_ := cell_keep xa3_ hz75
      replace xb3_ := cell_keep xb3_ hz75
      replace xa4_ := cell_keep xa4_ hz75
      replace xb4_ := cell_keep xb4_ hz75
      replace xa5_ := cell_keep xa5_ hz75
      replace xb5_ := cell_keep xb5_ hz75
      replace xa13_ := cell_keep xa13_ hz75
      replace xb13_ := cell_keep xb13_ hz75
      replace xa14_ := cell_keep xa14_ hz75
      replace xb14_ := cell_keep xb14_ hz75
      replace xa15_ := cell_keep xa15_ hz75
      replace xb15_ := cell_keep xb15_ hz75
      replace xa16_ := cell_keep xa16_ hz75
      replace xb16_ := cell_keep xb16_ hz75
      clear hc74 hz75
      have hba78 : Below z75.heap.size z75 (z75.alloc (Obj.cells #[.int .i64 1, .slice none 0 0] 25)) := ((Below.refl _ _).alloc (Nat.le_refl _) _)
      have hbb78 := hba78
      have hbc78 := below_trans hq75 hbb78
      replace HA4a := hid (HA4a.out.below hbc78)
      replace HR4a := hid (fun x hx => (HR4a.out x hx).below hbc78)
      replace HA10a := hid (HA10a.out.below hbc78)
      replace HR10a := hid (fun x hx => (HR10a.out x hx).below hbc78)
      replace HA10b := hid (HA10b.out.below hbc78)
      replace HR10b := hid (fun x hx => (HR10b.out x hx).below hbc78)
      replace HA14a := hid (HA14a.out.below hbc78)
      replace HR14a := hid (fun x hx => (HR14a.out x hx).below hbc78)
      replace HA14b := hid (HA14b.out.below hbc78)
      replace HR14b := hid (fun x hx => (HR14b.out x hx).below hbc78)
      replace HA57a := hid (HA57a.out.below hbc78)
      replace HR57a := hid (fun x hx => (HR57a.out x hx).below hbc78)
      replace HA57b := hid (HA57b.out.below hbc78)
      replace HR57b := hid (fun x hx => (HR57b.out x hx).below hbc78)
      replace HA61a := hid (HA61a.out.below hbc78)
      replace HR61a := hid (fun x hx => (HR61a.out x hx).below hbc78)
      replace HA61b := hid (HA61b.out.below hbc78)
      replace HR61b := hid (fun x hx => (HR61b.out x hx).below hbc78)
      replace HBL := hid (below_trans HBL.out hbc78)
      replace xa1_ := cell_keep xa1_ hbb78
      replace xb1_ := cell_keep xb1_ hbb78
      replace xa2_ := cell_keep xa2_ hbb78
      replace xb2_ := cell_keep xb2_ hbb78
      replace xa3_ := cell_keep xa3_ hbb78
      replace xb3_ := cell_keep xb3_ hbb78
      replace xa4_ := cell_keep xa4_ hbb78
      replace xb4_ := cell_keep xb4_ hbb78
      replace xa5_ := cell_keep xa5_ hbb78
      replace xb5_ := cell_keep xb5_ hbb78
      replace xa13_ := cell_keep xa13_ hbb78
      replace xb13_ := cell_keep xb13_ hbb78
      replace xa14_ := cell_keep xa14_ hbb78
      replace xb14_ := cell_keep xb14_ hbb78
      replace xa15_ := cell_keep xa15_ hbb78
      replace xb15_ := cell_keep xb15_ hbb78
      replace xa16_ := cell_keep xa16_ hbb78
      replace xb16_ := cell_keep xb16_ hbb78
      have hl78 := lay1 z75 (Obj.cells #[.int .i64 1, .slice none 0 0] 25)
      have HAL77 := hid (show Ty.At (z75.alloc (Obj.cells #[.int .i64 1, .slice none 0 0] 25)) (.mk 1 []) (.agg #[.int .i64 1, .slice none 0 0]) [] from Ty.at_mk.2 ⟨_, rfl, .inl ⟨rfl, rfl, _, _, rfl⟩⟩)
      have HRL77 := hid (show ∀ x ∈ ([] : List Nat), Raw (z75.alloc (Obj.cells #[.int .i64 1, .slice none 0 0] 25)) x from fun x hx => by cases hx)
      have HCL77 := hid (show ((.mk 1 []) : Ty).cnt ≤ 0 from by simp [Ty.cnt, cntL])
      have xa17_ : ((z75.alloc (Obj.cells #[.int .i64 1, .slice none 0 0] 25))).cell? ⟨z75.heap.size, 0, none⟩ = some (.int .i64 1) := by rw [cell_of_block (hl78)]; rfl
      have xb17_ : ((z75.alloc (Obj.cells #[.int .i64 1, .slice none 0 0] 25))).cell? ⟨z75.heap.size, 1, none⟩ = some (.slice none 0 0) := by rw [cell_of_block (hl78)]; rfl
      have h078 := Below.refl ((z75.alloc (Obj.cells #[.int .i64 1, .slice none 0 0] 25))).heap.size (z75.alloc (Obj.cells #[.int .i64 1, .slice none 0 0] 25))
      clear hba78 hbb78 hbc78 hl78
      have hba81 : Below ((z75.alloc (Obj.cells #[.int .i64 1, .slice none 0 0] 25))).heap.size (z75.alloc (Obj.cells #[.int .i64 1, .slice none 0 0] 25)) (((z75.alloc (Obj.cells #[.int .i64 1, .slice none 0 0] 25)).alloc (Obj.cells #[.int .i64 1, .slice none 0 0, .int .i64 1, .slice none 0 0] 25)).alloc (Obj.cells #[.int .i64 5, .slice (some ⟨z75.heap.size + 1, 0, none⟩) 2 2] 25)) := (((Below.refl _ _).alloc (Nat.le_refl _) _).alloc (by simp) _)
      have hbb81 := hba81
      have hbc81 := below_trans h078 hbb81
      replace HA4a := hid (HA4a.out.below hbc81)
      replace HR4a := hid (fun x hx => (HR4a.out x hx).below hbc81)
      replace HA10a := hid (HA10a.out.below hbc81)
      replace HR10a := hid (fun x hx => (HR10a.out x hx).below hbc81)
      replace HA10b := hid (HA10b.out.below hbc81)
      replace HR10b := hid (fun x hx => (HR10b.out x hx).below hbc81)
      replace HA14a := hid (HA14a.out.below hbc81)
      replace HR14a := hid (fun x hx => (HR14a.out x hx).below hbc81)
      replace HA14b := hid (HA14b.out.below hbc81)
      replace HR14b := hid (fun x hx => (HR14b.out x hx).below hbc81)
      replace HA57a := hid (HA57a.out.below hbc81)
      replace HR57a := hid (fun x hx => (HR57a.out x hx).below hbc81)
      replace HA57b := hid (HA57b.out.below hbc81)
      replace HR57b := hid (fun x hx => (HR57b.out x hx).below hbc81)
      replace HA61a := hid (HA61a.out.below hbc81)
      replace HR61a := hid (fun x hx => (HR61a.out x hx).below hbc81)
      replace HA61b := hid (HA61b.out.below hbc81)
      replace HR61b := hid (fun x hx => (HR61b.out x hx).below hbc81)
      replace HAL77 := hid (HAL77.out.below hbc81)
      replace HRL77 := hid (fun x hx => (HRL77.out x hx).below hbc81)
      replace HBL := hid (below_trans HBL.out hbc81)
      replace xa1_ := cell_keep xa1_ hbb81
      replace xb1_ := cell_keep xb1_ hbb81
      replace xa2_ := cell_keep xa2_ hbb81
      replace xb2_ := cell_keep xb2_ hbb81
      replace xa3_ := cell_keep xa3_ hbb81
      replace xb3_ := cell_keep xb3_ hbb81
      replace xa4_ := cell_keep xa4_ hbb81
      replace xb4_ := cell_keep xb4_ hbb81
      replace xa5_ := cell_keep xa5_ hbb81
      replace xb5_ := cell_keep xb5_ hbb81
      replace xa13_ := cell_keep xa13_ hbb81
      replace xb13_ := cell_keep xb13_ hbb81
      replace xa14_ := cell_keep xa14_ hbb81
      replace xb14_ := cell_keep xb14_ hbb81
      replace xa15_ := cell_keep xa15_ hbb81
      replace xb15_ := cell_keep xb15_ hbb81
      replace xa16_ := cell_keep xa16_ hbb81
      replace xb16_ := cell_keep xb16_ hbb81
      replace xa17_ := cell_keep xa17_ hbb81
      replace xb17_ := cell_keep xb17_ hbb81
      have hl81 := lay2 ((z75.alloc (Obj.cells #[.int .i64 1, .slice none 0 0] 25))) (Obj.cells #[.int .i64 1, .slice none 0 0, .int .i64 1, .slice none 0 0] 25) (Obj.cells #[.int .i64 5, .slice (some ⟨z75.heap.size + 1, 0, none⟩) 2 2] 25)
      have hsz81 : ((z75.alloc (Obj.cells #[.int .i64 1, .slice none 0 0] 25))).heap.size = z75.heap.size + 1 := by simp
      rw [hsz81] at hl81
      clear hsz81
      have HAL80 := hid (show Ty.At (((z75.alloc (Obj.cells #[.int .i64 1, .slice none 0 0] 25)).alloc (Obj.cells #[.int .i64 1, .slice none 0 0, .int .i64 1, .slice none 0 0] 25)).alloc (Obj.cells #[.int .i64 5, .slice (some ⟨z75.heap.size + 1, 0, none⟩) 2 2] 25)) (.mk 5 [.mk 1 [], .mk 1 []]) (.agg #[.int .i64 5, .slice (some ⟨z75.heap.size + 1, 0, none⟩) 2 2]) _ from Ty.at_mk.2 ⟨_, rfl, .inr ⟨z75.heap.size + 1, 0, 2, _, rfl, by simp, by simp, by simp [maxLen], ⟨_, _, _, _, by rw [cell_of_block hl81.1]; rfl, by rw [cell_of_block hl81.1]; rfl, HAL77.out, ⟨_, _, _, [], by rw [cell_of_block hl81.1]; rfl, by rw [cell_of_block hl81.1]; rfl, HAL77.out, rfl, rfl⟩, rfl⟩, rfl⟩⟩)
      have HCL80 := hid (show ((.mk 5 [.mk 1 [], .mk 1 []]) : Ty).cnt ≤ 2 from (by have := HCL77.out; have := HCL77.out; simp only [Ty.cnt, cntL, List.length_cons, List.length_nil] at *; omega))
      have xa18_ : ((((z75.alloc (Obj.cells #[.int .i64 1, .slice none 0 0] 25)).alloc (Obj.cells #[.int .i64 1, .slice none 0 0, .int .i64 1, .slice none 0 0] 25)).alloc (Obj.cells #[.int .i64 5, .slice (some ⟨z75.heap.size + 1, 0, none⟩) 2 2] 25))).cell? ⟨z75.heap.size + 1 + 1, 0, none⟩ = some (.int .i64 5) := by rw [cell_of_block (hl81.2)]; rfl
      have xb18_ : ((((z75.alloc (Obj.cells #[.int .i64 1, .slice none 0 0] 25)).alloc (Obj.cells #[.int .i64 1, .slice none 0 0, .int .i64 1, .slice none 0 0] 25)).alloc (Obj.cells #[.int .i64 5, .slice (some ⟨z75.heap.size + 1, 0, none⟩) 2 2] 25))).cell? ⟨z75.heap.size + 1 + 1, 1, none⟩ = some (.slice (some ⟨z75.heap.size + 1, 0, none⟩) 2 2) := by rw [cell_of_block (hl81.2)]; rfl
      have h081 := Below.refl ((((z75.alloc (Obj.cells #[.int .i64 1, .slice none 0 0] 25)).alloc (Obj.cells #[.int .i64 1, .slice none 0 0, .int .i64 1, .slice none 0 0] 25)).alloc (Obj.cells #[.int .i64 5, .slice (some ⟨z75.heap.size + 1, 0, none⟩) 2 2] 25))).heap.size (((z75.alloc (Obj.cells #[.int .i64 1, .slice none 0 0] 25)).alloc (Obj.cells #[.int .i64 1, .slice none 0 0, .int .i64 1, .slice none 0 0] 25)).alloc (Obj.cells #[.int .i64 5, .slice (some ⟨z75.heap.size + 1, 0, none⟩) 2 2] 25))
      clear hba81 hbb81 hbc81 hl81
      have hba84 : Below ((((z75.alloc (Obj.cells #[.int .i64 1, .slice none 0 0] 25)).alloc (Obj.cells #[.int .i64 1, .slice none 0 0, .int .i64 1, .slice none 0 0] 25)).alloc (Obj.cells #[.int .i64 5, .slice (some ⟨z75.heap.size + 1, 0, none⟩) 2 2] 25))).heap.size (((z75.alloc (Obj.cells #[.int .i64 1, .slice none 0 0] 25)).alloc (Obj.cells #[.int .i64 1, .slice none 0 0, .int .i64 1, .slice none 0 0] 25)).alloc (Obj.cells #[.int .i64 5, .slice (some ⟨z75.heap.size + 1, 0, none⟩) 2 2] 25)) (((((z75.alloc (Obj.cells #[.int .i64 1, .slice none 0 0] 25)).alloc (Obj.cells #[.int .i64 1, .slice none 0 0, .int .i64 1, .slice none 0 0] 25)).alloc (Obj.cells #[.int .i64 5, .slice (some ⟨z75.heap.size + 1, 0, none⟩) 2 2] 25)).alloc (Obj.cells #[.int .i64 1, .slice none 0 0, .int .i64 1, .slice none 0 0] 25)).alloc (Obj.cells #[.int .i64 4, .slice (some ⟨z75.heap.size + 1 + 1 + 1, 0, none⟩) 2 2] 25)) := (((Below.refl _ _).alloc (Nat.le_refl _) _).alloc (by simp) _)
      have hbb84 := hba84
      have hbc84 := below_trans h081 hbb84
      replace HA4a := hid (HA4a.out.below hbc84)
      replace HR4a := hid (fun x hx => (HR4a.out x hx).below hbc84)
      replace HA10a := hid (HA10a.out.below hbc84)
      replace HR10a := hid (fun x hx => (HR10a.out x hx).below hbc84)
      replace HA10b := hid (HA10b.out.below hbc84)
      replace HR10b := hid (fun x hx => (HR10b.out x hx).below hbc84)
      replace HA14a := hid (HA14a.out.below hbc84)
      replace HR14a := hid (fun x hx => (HR14a.out x hx).below hbc84)
      replace HA14b := hid (HA14b.out.below hbc84)
      replace HR14b := hid (fun x hx => (HR14b.out x hx).below hbc84)
      replace HA57a := hid (HA57a.out.below hbc84)
      replace HR57a := hid (fun x hx => (HR57a.out x hx).below hbc84)
      replace HA57b := hid (HA57b.out.below hbc84)
      replace HR57b := hid (fun x hx => (HR57b.out x hx).below hbc84)
      replace HA61a := hid (HA61a.out.below hbc84)
      replace HR61a := hid (fun x hx => (HR61a.out x hx).below hbc84)
      replace HA61b := hid (HA61b.out.below hbc84)
      replace HR61b := hid (fun x hx => (HR61b.out x hx).below hbc84)
      replace HAL77 := hid (HAL77.out.below hbc84)
      replace HRL77 := hid (fun x hx => (HRL77.out x hx).below hbc84)
      replace HAL80 := hid (HAL80.out.below hbc84)
      replace HBL := hid (below_trans HBL.out hbc84)
      replace xa1_ := cell_keep xa1_ hbb84
      replace xb1_ := cell_keep xb1_ hbb84
      replace xa2_ := cell_keep xa2_ hbb84
      replace xb2_ := cell_keep xb2_ hbb84
      replace xa3_ := cell_keep xa3_ hbb84
      replace xb3_ := cell_keep xb3_ hbb84
      replace xa4_ := cell_keep xa4_ hbb84
      replace xb4_ := cell_keep xb4_ hbb84
      replace xa5_ := cell_keep xa5_ hbb84
      replace xb5_ := cell_keep xb5_ hbb84
      replace xa13_ := cell_keep xa13_ hbb84
      replace xb13_ := cell_keep xb13_ hbb84
      replace xa14_ := cell_keep xa14_ hbb84
      replace xb14_ := cell_keep xb14_ hbb84
      replace xa15_ := cell_keep xa15_ hbb84
      replace xb15_ := cell_keep xb15_ hbb84
      replace xa16_ := cell_keep xa16_ hbb84
      replace xb16_ := cell_keep xb16_ hbb84
      replace xa17_ := cell_keep xa17_ hbb84
      replace xb17_ := cell_keep xb17_ hbb84
      replace xa18_ := cell_keep xa18_ hbb84
      replace xb18_ := cell_keep xb18_ hbb84
      have hl84 := lay2 ((((z75.alloc (Obj.cells #[.int .i64 1, .slice none 0 0] 25)).alloc (Obj.cells #[.int .i64 1, .slice none 0 0, .int .i64 1, .slice none 0 0] 25)).alloc (Obj.cells #[.int .i64 5, .slice (some ⟨z75.heap.size + 1, 0, none⟩) 2 2] 25))) (Obj.cells #[.int .i64 1, .slice none 0 0, .int .i64 1, .slice none 0 0] 25) (Obj.cells #[.int .i64 4, .slice (some ⟨z75.heap.size + 1 + 1 + 1, 0, none⟩) 2 2] 25)
      have hsz84 : ((((z75.alloc (Obj.cells #[.int .i64 1, .slice none 0 0] 25)).alloc (Obj.cells #[.int .i64 1, .slice none 0 0, .int .i64 1, .slice none 0 0] 25)).alloc (Obj.cells #[.int .i64 5, .slice (some ⟨z75.heap.size + 1, 0, none⟩) 2 2] 25))).heap.size = z75.heap.size + 1 + 1 + 1 := by simp
      rw [hsz84] at hl84
      clear hsz84
      have HAL83 := hid (show Ty.At (((((z75.alloc (Obj.cells #[.int .i64 1, .slice none 0 0] 25)).alloc (Obj.cells #[.int .i64 1, .slice none 0 0, .int .i64 1, .slice none 0 0] 25)).alloc (Obj.cells #[.int .i64 5, .slice (some ⟨z75.heap.size + 1, 0, none⟩) 2 2] 25)).alloc (Obj.cells #[.int .i64 1, .slice none 0 0, .int .i64 1, .slice none 0 0] 25)).alloc (Obj.cells #[.int .i64 4, .slice (some ⟨z75.heap.size + 1 + 1 + 1, 0, none⟩) 2 2] 25)) (.mk 4 [.mk 1 [], .mk 1 []]) (.agg #[.int .i64 4, .slice (some ⟨z75.heap.size + 1 + 1 + 1, 0, none⟩) 2 2]) _ from Ty.at_mk.2 ⟨_, rfl, .inr ⟨z75.heap.size + 1 + 1 + 1, 0, 2, _, rfl, by simp, by simp, by simp [maxLen], ⟨_, _, _, _, by rw [cell_of_block hl84.1]; rfl, by rw [cell_of_block hl84.1]; rfl, HAL77.out, ⟨_, _, _, [], by rw [cell_of_block hl84.1]; rfl, by rw [cell_of_block hl84.1]; rfl, HAL77.out, rfl, rfl⟩, rfl⟩, rfl⟩⟩)
      have HCL83 := hid (show ((.mk 4 [.mk 1 [], .mk 1 []]) : Ty).cnt ≤ 2 from (by have := HCL77.out; have := HCL77.out; simp only [Ty.cnt, cntL, List.length_cons, List.length_nil] at *; omega))
      have xa19_ : ((((((z75.alloc (Obj.cells #[.int .i64 1, .slice none 0 0] 25)).alloc (Obj.cells #[.int .i64 1, .slice none 0 0, .int .i64 1, .slice none 0 0] 25)).alloc (Obj.cells #[.int .i64 5, .slice (some ⟨z75.heap.size + 1, 0, none⟩) 2 2] 25)).alloc (Obj.cells #[.int .i64 1, .slice none 0 0, .int .i64 1, .slice none 0 0] 25)).alloc (Obj.cells #[.int .i64 4, .slice (some ⟨z75.heap.size + 1 + 1 + 1, 0, none⟩) 2 2] 25))).cell? ⟨z75.heap.size + 1 + 1 + 1 + 1, 0, none⟩ = some (.int .i64 4) := by rw [cell_of_block (hl84.2)]; rfl
      have xb19_ : ((((((z75.alloc (Obj.cells #[.int .i64 1, .slice none 0 0] 25)).alloc (Obj.cells #[.int .i64 1, .slice none 0 0, .int .i64 1, .slice none 0 0] 25)).alloc (Obj.cells #[.int .i64 5, .slice (some ⟨z75.heap.size + 1, 0, none⟩) 2 2] 25)).alloc (Obj.cells #[.int .i64 1, .slice none 0 0, .int .i64 1, .slice none 0 0] 25)).alloc (Obj.cells #[.int .i64 4, .slice (some ⟨z75.heap.size + 1 + 1 + 1, 0, none⟩) 2 2] 25))).cell? ⟨z75.heap.size + 1 + 1 + 1 + 1, 1, none⟩ = some (.slice (some ⟨z75.heap.size + 1 + 1 + 1, 0, none⟩) 2 2) := by rw [cell_of_block (hl84.2)]; rfl
      have h084 := Below.refl ((((((z75.alloc (Obj.cells #[.int .i64 1, .slice none 0 0] 25)).alloc (Obj.cells #[.int .i64 1, .slice none 0 0, .int .i64 1, .slice none 0 0] 25)).alloc (Obj.cells #[.int .i64 5, .slice (some ⟨z75.heap.size + 1, 0, none⟩) 2 2] 25)).alloc (Obj.cells #[.int .i64 1, .slice none 0 0, .int .i64 1, .slice none 0 0] 25)).alloc (Obj.cells #[.int .i64 4, .slice (some ⟨z75.heap.size + 1 + 1 + 1, 0, none⟩) 2 2] 25))).heap.size (((((z75.alloc (Obj.cells #[.int .i64 1, .slice none 0 0] 25)).alloc (Obj.cells #[.int .i64 1, .slice none 0 0, .int .i64 1, .slice none 0 0] 25)).alloc (Obj.cells #[.int .i64 5, .slice (some ⟨z75.heap.size + 1, 0, none⟩) 2 2] 25)).alloc (Obj.cells #[.int .i64 1, .slice none 0 0, .int .i64 1, .slice none 0 0] 25)).alloc (Obj.cells #[.int .i64 4, .slice (some ⟨z75.heap.size + 1 + 1 + 1, 0, none⟩) 2 2] 25))
      clear hba84 hbb84 hbc84 hl84
      have EQ86 := hid (show consOf t4a (.mk 5 [.mk 1 [], .mk 1 []]) = true from (by rw [← mt_cons 5 (by omega) t4a]; exact EQ7.out))
      go_wp2_with fail
      have hc87 := implConsistent t4a (.mk 5 [.mk 1 [], .mk 1 []]) _ _ _ _ _ (HA4a.out.below h084) (HAL80.out.below h084)
      rw [EQ86.out] at hc87
      refine hc87.mono ?_
      rintro e z88 ⟨rfl, hz88⟩
      have hq88 := below_trans h084 hz88
      replace xa1_ := cell_keep xa1_ hz88
      replace xb1_ := cell_keep xb1_ hz88
      replace xa2_ := cell_keep xa2_ hz88
      replace xb2_ := cell_keep xb2_ hz88
      replace xa3_ := cell_keep xa3_ hz88
      replace xb3_ := cell_keep xb3_ hz88
      replace xa4_ := cell_keep xa4_ hz88
      replace xb4_ := cell_keep xb4_ hz88
      replace xa5_ := cell_keep xa5_ hz88
      replace xb5_ := cell_keep xb5_ hz88
      replace xa13_ := cell_keep xa13_ hz88
      replace xb13_ := cell_keep xb13_ hz88
      replace xa14_ := cell_keep xa14_ hz88
      replace xb14_ := cell_keep xb14_ hz88
      replace xa15_ := cell_keep xa15_ hz88
      replace xb15_ := cell_keep xb15_ hz88
      replace xa16_ := cell_keep xa16_ hz88
      replace xb16_ := cell_keep xb16_ hz88
      replace xa17_ := cell_keep xa17_ hz88
      replace xb17_ := cell_keep xb17_ hz88
      replace xa18_ := cell_keep xa18_ hz88
      replace xb18_ := cell_keep xb18_ hz88
      replace xa19_ := cell_keep xa19_ hz88
      replace xb19_ := cell_keep xb19_ hz88
      clear hc87 hz88
      have EQ89 := hid (show consOf t4a (.mk 4 [.mk 1 [], .mk 1 []]) = false from (by rw [← mt_cons 4 (by omega) t4a]; exact EQ17.out))
      go_wp2_with fail
      have hc90 := implConsistent t4a (.mk 4 [.mk 1 [], .mk 1 []]) _ _ _ _ _ (HA4a.out.below hq88) (HAL83.out.below hq88)
      rw [EQ89.out] at hc90
      refine hc90.mono ?_
      rintro e z91 ⟨rfl, hz91⟩
      have hq91 := below_trans hq88 hz91
      replace xa1_ := cell_keep xa1_ hz91
      replace xb1_ := cell_keep xb1_ hz91
      replace xa2_ := cell_keep xa2_ hz91
      replace xb2_ := cell_keep xb2_ hz91
      replace xa3_ := cell_keep xa3_ hz91
      replace xb3_ := cell_keep xb3_ hz91
      replace xa4_ := cell_keep xa4_ hz91
      replace xb4_ := cell_keep xb4_ hz91
      replace xa5_ := cell_keep xa5_ hz91
      replace xb5_ := cell_keep xb5_ hz91
      replace xa13_ := cell_keep xa13_ hz91
      replace xb13_ := cell_keep xb13_ hz91
      replace xa14_ := cell_keep xa14_ hz91
      replace xb14_ := cell_keep xb14_ hz91
      replace xa15_ := cell_keep xa15_ hz91
      replace xb15_ := cell_keep xb15_ hz91
      replace xa16_ := cell_keep xa16_ hz91
      replace xb16_ := cell_keep xb16_ hz91
      replace xa17_ := cell_keep xa17_ hz91
      replace xb17_ := cell_keep xb17_ hz91
      replace xa18_ := cell_keep xa18_ hz91
      replace xb18_ := cell_keep xb18_ hz91
      replace xa19_ := cell_keep xa19_ hz91
      replace xb19_ := cell_keep xb19_ hz91
      clear hc90 hz91
      go_wp2_with fail
      go_ret
      exact ⟨rfl, below_trans HBL.out hq91⟩
  · have EQ7 := hid hq7
    clear hq7
    go_wp2_with fail
    have hc93 := implMatchPair t4a _ _ _ (HA4a.out.below h05) (by have := HC4a.out; omega)
    rw [EQ7.out] at hc93
    refine hc93.mono ?_
    rintro e z94 ⟨v94a, v94b, f94a, f94b, M94, rfl, ht94a, ht94b, hf94a, hf94b, -, -, -, -, hz94⟩
    obtain ⟨k94a, n94a, a94a, c94a, rfl⟩ := ht94a.agg
    obtain ⟨k94b, n94b, a94b, c94b, rfl⟩ := ht94b.agg
    clear hc93
    have hba95 : Below z94.heap.size z94 ((z94.alloc (Obj.cells #[.int .i64 k94a, .slice a94a n94a c94a] 25)).alloc (Obj.cells #[.int .i64 k94b, .slice a94b n94b c94b] 25)) := (((Below.refl _ _).alloc (Nat.le_refl _) _).alloc (by simp) _)
    have hbb95 := below_trans hz94 hba95
    have hbc95 := below_trans h05 hbb95
    replace HA4a := hid (HA4a.out.below hbc95)
    replace HR4a := hid (fun x hx => (HR4a.out x hx).below hbc95)
    replace HBL := hid (below_trans HBL.out hbc95)
    replace xa1_ := cell_keep xa1_ hbb95
    replace xb1_ := cell_keep xb1_ hbb95
    have hl95 := lay2 z94 (Obj.cells #[.int .i64 k94a, .slice a94a n94a c94a] 25) (Obj.cells #[.int .i64 k94b, .slice a94b n94b c94b] 25)
    have HA94a := hid (ht94a.below hba95)
    have HR94a := hid (show ∀ x ∈ f94a, Raw ((z94.alloc (Obj.cells #[.int .i64 k94a, .slice a94a n94a c94a] 25)).alloc (Obj.cells #[.int .i64 k94b, .slice a94b n94b c94b] 25)) x from fun x hx => Raw.below (Fresh.raw ht94a hf94a x hx) hba95)
    have HC94a := hid (show ((mtOf 5 0 t4a) : Ty).cnt ≤ 100 from (Nat.le_trans (by have := mt_cnt 5 (by omega) t4a; omega) HC4a.out))
    have HA94b := hid (ht94b.below hba95)
    have HR94b := hid (show ∀ x ∈ f94b, Raw ((z94.alloc (Obj.cells #[.int .i64 k94a, .slice a94a n94a c94a] 25)).alloc (Obj.cells #[.int .i64 k94b, .slice a94b n94b c94b] 25)) x from fun x hx => Raw.below (Fresh.raw ht94b hf94b x hx) hba95)
    have HC94b := hid (show ((mtOf 5 1 t4a) : Ty).cnt ≤ 100 from (Nat.le_trans (by have := mt_cnt 5 (by omega) t4a; omega) HC4a.out))
    have xa20_ : (((z94.alloc (Obj.cells #[.int .i64 k94a, .slice a94a n94a c94a] 25)).alloc (Obj.cells #[.int .i64 k94b, .slice a94b n94b c94b] 25))).cell? ⟨z94.heap.size, 0, none⟩ = some (.int .i64 k94a) := by rw [cell_of_block (hl95.1)]; rfl
    have xb20_ : (((z94.alloc (Obj.cells #[.int .i64 k94a, .slice a94a n94a c94a] 25)).alloc (Obj.cells #[.int .i64 k94b, .slice a94b n94b c94b] 25))).cell? ⟨z94.heap.size, 1, none⟩ = some (.slice a94a n94a c94a) := by rw [cell_of_block (hl95.1)]; rfl
    have xa21_ : (((z94.alloc (Obj.cells #[.int .i64 k94a, .slice a94a n94a c94a] 25)).alloc (Obj.cells #[.int .i64 k94b, .slice a94b n94b c94b] 25))).cell? ⟨z94.heap.size + 1, 0, none⟩ = some (.int .i64 k94b) := by rw [cell_of_block (hl95.2)]; rfl
    have xb21_ : (((z94.alloc (Obj.cells #[.int .i64 k94a, .slice a94a n94a c94a] 25)).alloc (Obj.cells #[.int .i64 k94b, .slice a94b n94b c94b] 25))).cell? ⟨z94.heap.size + 1, 1, none⟩ = some (.slice a94b n94b c94b) := by rw [cell_of_block (hl95.2)]; rfl
    have h095 := Below.refl (((z94.alloc (Obj.cells #[.int .i64 k94a, .slice a94a n94a c94a] 25)).alloc (Obj.cells #[.int .i64 k94b, .slice a94b n94b c94b] 25))).heap.size ((z94.alloc (Obj.cells #[.int .i64 k94a, .slice a94a n94a c94a] 25)).alloc (Obj.cells #[.int .i64 k94b, .slice a94b n94b c94b] 25))
    clear ht94a
    clear ht94b
    clear hba95 hbb95 hbc95 hl95 hz94
    go_wp2_with fail
    have hc97 := specMatchPair t4a _ _ _ (HA4a.out.below h095) (by have := HC4a.out; omega)
    rw [EQ7.out] at hc97
    refine hc97.mono ?_
    rintro e z98 ⟨v98a, v98b, f98a, f98b, M98, rfl, ht98a, ht98b, hf98a, hf98b, -, -, -, -, hz98⟩
    obtain ⟨k98a, n98a, a98a, c98a, rfl⟩ := ht98a.agg
    obtain ⟨k98b, n98b, a98b, c98b, rfl⟩ := ht98b.agg
    clear hc97
    have hba99 : Below z98.heap.size z98 ((z98.alloc (Obj.cells #[.int .i64 k98a, .slice a98a n98a c98a] 25)).alloc (Obj.cells #[.int .i64 k98b, .slice a98b n98b c98b] 25)) := (((Below.refl _ _).alloc (Nat.le_refl _) _).alloc (by simp) _)
    have hbb99 := below_trans hz98 hba99
    have hbc99 := below_trans h095 hbb99
    replace HA4a := hid (HA4a.out.below hbc99)
    replace HR4a := hid (fun x hx => (HR4a.out x hx).below hbc99)
    replace HA94a := hid (HA94a.out.below hbc99)
    replace HR94a := hid (fun x hx => (HR94a.out x hx).below hbc99)
    replace HA94b := hid (HA94b.out.below hbc99)
    replace HR94b := hid (fun x hx => (HR94b.out x hx).below hbc99)
    replace HBL := hid (below_trans HBL.out hbc99)
    replace xa1_ := cell_keep xa1_ hbb99
    replace xb1_ := cell_keep xb1_ hbb99
    replace xa20_ := cell_keep xa20_ hbb99
    replace xb20_ := cell_keep xb20_ hbb99
    replace xa21_ := cell_keep xa21_ hbb99
    replace xb21_ := cell_keep xb21_ hbb99
    have hl99 := lay2 z98 (Obj.cells #[.int .i64 k98a, .slice a98a n98a c98a] 25) (Obj.cells #[.int .i64 k98b, .slice a98b n98b c98b] 25)
    have HA98a := hid (ht98a.below hba99)
    have HR98a := hid (show ∀ x ∈ f98a, Raw ((z98.alloc (Obj.cells #[.int .i64 k98a, .slice a98a n98a c98a] 25)).alloc (Obj.cells #[.int .i64 k98b, .slice a98b n98b c98b] 25)) x from fun x hx => Raw.below (Fresh.raw ht98a hf98a x hx) hba99)
    have HC98a := hid (show ((mtOf 5 0 t4a) : Ty).cnt ≤ 100 from (Nat.le_trans (by have := mt_cnt 5 (by omega) t4a; omega) HC4a.out))
    have HA98b := hid (ht98b.below hba99)
    have HR98b := hid (show ∀ x ∈ f98b, Raw ((z98.alloc (Obj.cells #[.int .i64 k98a, .slice a98a n98a c98a] 25)).alloc (Obj.cells #[.int .i64 k98b, .slice a98b n98b c98b] 25)) x from fun x hx => Raw.below (Fresh.raw ht98b hf98b x hx) hba99)
    have HC98b := hid (show ((mtOf 5 1 t4a) : Ty).cnt ≤ 100 from (Nat.le_trans (by have := mt_cnt 5 (by omega) t4a; omega) HC4a.out))
    have xa22_ : (((z98.alloc (Obj.cells #[.int .i64 k98a, .slice a98a n98a c98a] 25)).alloc (Obj.cells #[.int .i64 k98b, .slice a98b n98b c98b] 25))).cell? ⟨z98.heap.size, 0, none⟩ = some (.int .i64 k98a) := by rw [cell_of_block (hl99.1)]; rfl
    have xb22_ : (((z98.alloc (Obj.cells #[.int .i64 k98a, .slice a98a n98a c98a] 25)).alloc (Obj.cells #[.int .i64 k98b, .slice a98b n98b c98b] 25))).cell? ⟨z98.heap.size, 1, none⟩ = some (.slice a98a n98a c98a) := by rw [cell_of_block (hl99.1)]; rfl
    have xa23_ : (((z98.alloc (Obj.cells #[.int .i64 k98a, .slice a98a n98a c98a] 25)).alloc (Obj.cells #[.int .i64 k98b, .slice a98b n98b c98b] 25))).cell? ⟨z98.heap.size + 1, 0, none⟩ = some (.int .i64 k98b) := by rw [cell_of_block (hl99.2)]; rfl
    have xb23_ : (((z98.alloc (Obj.cells #[.int .i64 k98a, .slice a98a n98a c98a] 25)).alloc (Obj.cells #[.int .i64 k98b, .slice a98b n98b c98b] 25))).cell? ⟨z98.heap.size + 1, 1, none⟩ = some (.slice a98b n98b c98b) := by rw [cell_of_block (hl99.2)]; rfl
    have h099 := Below.refl (((z98.alloc (Obj.cells #[.int .i64 k98a, .slice a98a n98a c98a] 25)).alloc (Obj.cells #[.int .i64 k98b, .slice a98b n98b c98b] 25))).heap.size ((z98.alloc (Obj.cells #[.int .i64 k98a, .slice a98a n98a c98a] 25)).alloc (Obj.cells #[.int .i64 k98b, .slice a98b n98b c98b] 25))
    clear ht98a
    clear ht98b
    clear hba99 hbb99 hbc99 hl99 hz98
    rcases Bool.eq_false_or_eq_true (mtOk 4 t4a) with hq101 | hq101
    · have EQ101 := hid hq101
      clear hq101
      go_wp2_with fail
      have hc103 := implMatchFun t4a _ _ _ (HA4a.out.below h099) (by have := HC4a.out; omega)
      rw [EQ101.out] at hc103
      refine hc103.mono ?_
      rintro e z104 ⟨v104a, v104b, f104a, f104b, M104, rfl, ht104a, ht104b, hf104a, hf104b, -, -, -, -, hz104⟩
      obtain ⟨k104a, n104a, a104a, c104a, rfl⟩ := ht104a.agg
      obtain ⟨k104b, n104b, a104b, c104b, rfl⟩ := ht104b.agg
      clear hc103
      have hba105 : Below z104.heap.size z104 ((z104.alloc (Obj.cells #[.int .i64 k104a, .slice a104a n104a c104a] 25)).alloc (Obj.cells #[.int .i64 k104b, .slice a104b n104b c104b] 25)) := (((Below.refl _ _).alloc (Nat.le_refl _) _).alloc (by simp) _)
      have hbb105 := below_trans hz104 hba105
      have hbc105 := below_trans h099 hbb105
      replace HA4a := hid (HA4a.out.below hbc105)
      replace HR4a := hid (fun x hx => (HR4a.out x hx).below hbc105)
      replace HA94a := hid (HA94a.out.below hbc105)
      replace HR94a := hid (fun x hx => (HR94a.out x hx).below hbc105)
      replace HA94b := hid (HA94b.out.below hbc105)
      replace HR94b := hid (fun x hx => (HR94b.out x hx).below hbc105)
      replace HA98a := hid (HA98a.out.below hbc105)
      replace HR98a := hid (fun x hx => (HR98a.out x hx).below hbc105)
      replace HA98b := hid (HA98b.out.below hbc105)
      replace HR98b := hid (fun x hx => (HR98b.out x hx).below hbc105)
      replace HBL := hid (below_trans HBL.out hbc105)
      replace xa1_ := cell_keep xa1_ hbb105
      replace xb1_ := cell_keep xb1_ hbb105
      replace xa20_ := cell_keep xa20_ hbb105
      replace xb20_ := cell_keep xb20_ hbb105
      replace xa21_ := cell_keep xa21_ hbb105
      replace xb21_ := cell_keep xb21_ hbb105
      replace xa22_ := cell_keep xa22_ hbb105
      replace xb22_ := cell_keep xb22_ hbb105
      replace xa23_ := cell_keep xa23_ hbb105
      replace xb23_ := cell_keep xb23_ hbb105
      have hl105 := lay2 z104 (Obj.cells #[.int .i64 k104a, .slice a104a n104a c104a] 25) (Obj.cells #[.int .i64 k104b, .slice a104b n104b c104b] 25)
      have HA104a := hid (ht104a.below hba105)
      have HR104a := hid (show ∀ x ∈ f104a, Raw ((z104.alloc (Obj.cells #[.int .i64 k104a, .slice a104a n104a c104a] 25)).alloc (Obj.cells #[.int .i64 k104b, .slice a104b n104b c104b] 25)) x from fun x hx => Raw.below (Fresh.raw ht104a hf104a x hx) hba105)
      have HC104a := hid (show ((mtOf 4 0 t4a) : Ty).cnt ≤ 100 from (Nat.le_trans (by have := mt_cnt 4 (by omega) t4a; omega) HC4a.out))
      have HA104b := hid (ht104b.below hba105)
      have HR104b := hid (show ∀ x ∈ f104b, Raw ((z104.alloc (Obj.cells #[.int .i64 k104a, .slice a104a n104a c104a] 25)).alloc (Obj.cells #[.int .i64 k104b, .slice a104b n104b c104b] 25)) x from fun x hx => Raw.below (Fresh.raw ht104b hf104b x hx) hba105)
      have HC104b := hid (show ((mtOf 4 1 t4a) : Ty).cnt ≤ 100 from (Nat.le_trans (by have := mt_cnt 4 (by omega) t4a; omega) HC4a.out))
      have xa24_ : (((z104.alloc (Obj.cells #[.int .i64 k104a, .slice a104a n104a c104a] 25)).alloc (Obj.cells #[.int .i64 k104b, .slice a104b n104b c104b] 25))).cell? ⟨z104.heap.size, 0, none⟩ = some (.int .i64 k104a) := by rw [cell_of_block (hl105.1)]; rfl
      have xb24_ : (((z104.alloc (Obj.cells #[.int .i64 k104a, .slice a104a n104a c104a] 25)).alloc (Obj.cells #[.int .i64 k104b, .slice a104b n104b c104b] 25))).cell? ⟨z104.heap.size, 1, none⟩ = some (.slice a104a n104a c104a) := by rw [cell_of_block (hl105.1)]; rfl
      have xa25_ : (((z104.alloc (Obj.cells #[.int .i64 k104a, .slice a104a n104a c104a] 25)).alloc (Obj.cells #[.int .i64 k104b, .slice a104b n104b c104b] 25))).cell? ⟨z104.heap.size + 1, 0, none⟩ = some (.int .i64 k104b) := by rw [cell_of_block (hl105.2)]; rfl
      have xb25_ : (((z104.alloc (Obj.cells #[.int .i64 k104a, .slice a104a n104a c104a] 25)).alloc (Obj.cells #[.int .i64 k104b, .slice a104b n104b c104b] 25))).cell? ⟨z104.heap.size + 1, 1, none⟩ = some (.slice a104b n104b c104b) := by rw [cell_of_block (hl105.2)]; rfl
      have h0105 := Below.refl (((z104.alloc (Obj.cells #[.int .i64 k104a, .slice a104a n104a c104a] 25)).alloc (Obj.cells #[.int .i64 k104b, .slice a104b n104b c104b] 25))).heap.size ((z104.alloc (Obj.cells #[.int .i64 k104a, .slice a104a n104a c104a] 25)).alloc (Obj.cells #[.int .i64 k104b, .slice a104b n104b c104b] 25))
      clear ht104a
      clear ht104b
      clear hba105 hbb105 hbc105 hl105 hz104
      go_wp2_with fail
      have hc107 := specMatchFun t4a _ _ _ (HA4a.out.below h0105) (by have := HC4a.out; omega)
      rw [EQ101.out] at hc107
      refine hc107.mono ?_
      rintro e z108 ⟨v108a, v108b, f108a, f108b, M108, rfl, ht108a, ht108b, hf108a, hf108b, -, -, -, -, hz108⟩
      obtain ⟨k108a, n108a, a108a, c108a, rfl⟩ := ht108a.agg
      obtain ⟨k108b, n108b, a108b, c108b, rfl⟩ := ht108b.agg
      clear hc107
      have hba109 : Below z108.heap.size z108 ((z108.alloc (Obj.cells #[.int .i64 k108a, .slice a108a n108a c108a] 25)).alloc (Obj.cells #[.int .i64 k108b, .slice a108b n108b c108b] 25)) := (((Below.refl _ _).alloc (Nat.le_refl _) _).alloc (by simp) _)
      have hbb109 := below_trans hz108 hba109
      have hbc109 := below_trans h0105 hbb109
      replace HA4a := hid (HA4a.out.below hbc109)
      replace HR4a := hid (fun x hx => (HR4a.out x hx).below hbc109)
      replace HA94a := hid (HA94a.out.below hbc109)
      replace HR94a := hid (fun x hx => (HR94a.out x hx).below hbc109)
      replace HA94b := hid (HA94b.out.below hbc109)
      replace HR94b := hid (fun x hx => (HR94b.out x hx).below hbc109)
      replace HA98a := hid (HA98a.out.below hbc109)
      replace HR98a := hid (fun x hx => (HR98a.out x hx).below hbc109)
      replace HA98b := hid (HA98b.out.below hbc109)
      replace HR98b := hid (fun x hx => (HR98b.out x hx).below hbc109)
      replace HA104a := hid (HA104a.out.below hbc109)
      replace HR104a := hid (fun x hx => (HR104a.out x hx).below hbc109)
      replace HA104b := hid (HA104b.out.below hbc109)
      replace HR104b := hid (fun x hx => (HR104b.out x hx).below hbc109)
      replace HBL := hid (below_trans HBL.out hbc109)
      replace xa1_ := cell_keep xa1_ hbb109
      replace xb1_ := cell_keep xb1_ hbb109
      replace xa20_ := cell_keep xa20_ hbb109
      replace xb20_ := cell_keep xb20_ hbb109
      replace xa21_ := cell_keep xa21_ hbb109
      replace xb21_ := cell_keep xb21_ hbb109
      replace xa22_ := cell_keep xa22_ hbb109
      replace xb22_ := cell_keep xb22_ hbb109
      replace xa23_ := cell_keep xa23_ hbb109
      replace xb23_ := cell_keep xb23_ hbb109
      replace xa24_ := cell_keep xa24_ hbb109
      replace xb24_ := cell_keep xb24_ hbb109
      replace xa25_ := cell_keep xa25_ hbb109
      replace xb25_ := cell_keep xb25_ hbb109
      have hl109 := lay2 z108 (Obj.cells #[.int .i64 k108a, .slice a108a n108a c108a] 25) (Obj.cells #[.int .i64 k108b, .slice a108b n108b c108b] 25)
      have HA108a := hid (ht108a.below hba109)
      have HR108a := hid (show ∀ x ∈ f108a, Raw ((z108.alloc (Obj.cells #[.int .i64 k108a, .slice a108a n108a c108a] 25)).alloc (Obj.cells #[.int .i64 k108b, .slice a108b n108b c108b] 25)) x from fun x hx => Raw.below (Fresh.raw ht108a hf108a x hx) hba109)
      have HC108a := hid (show ((mtOf 4 0 t4a) : Ty).cnt ≤ 100 from (Nat.le_trans (by have := mt_cnt 4 (by omega) t4a; omega) HC4a.out))
      have HA108b := hid (ht108b.below hba109)
      have HR108b := hid (show ∀ x ∈ f108b, Raw ((z108.alloc (Obj.cells #[.int .i64 k108a, .slice a108a n108a c108a] 25)).alloc (Obj.cells #[.int .i64 k108b, .slice a108b n108b c108b] 25)) x from fun x hx => Raw.below (Fresh.raw ht108b hf108b x hx) hba109)
      have HC108b := hid (show ((mtOf 4 1 t4a) : Ty).cnt ≤ 100 from (Nat.le_trans (by have := mt_cnt 4 (by omega) t4a; omega) HC4a.out))
      have xa26_ : (((z108.alloc (Obj.cells #[.int .i64 k108a, .slice a108a n108a c108a] 25)).alloc (Obj.cells #[.int .i64 k108b, .slice a108b n108b c108b] 25))).cell? ⟨z108.heap.size, 0, none⟩ = some (.int .i64 k108a) := by rw [cell_of_block (hl109.1)]; rfl
      have xb26_ : (((z108.alloc (Obj.cells #[.int .i64 k108a, .slice a108a n108a c108a] 25)).alloc (Obj.cells #[.int .i64 k108b, .slice a108b n108b c108b] 25))).cell? ⟨z108.heap.size, 1, none⟩ = some (.slice a108a n108a c108a) := by rw [cell_of_block (hl109.1)]; rfl
      have xa27_ : (((z108.alloc (Obj.cells #[.int .i64 k108a, .slice a108a n108a c108a] 25)).alloc (Obj.cells #[.int .i64 k108b, .slice a108b n108b c108b] 25))).cell? ⟨z108.heap.size + 1, 0, none⟩ = some (.int .i64 k108b) := by rw [cell_of_block (hl109.2)]; rfl
      have xb27_ : (((z108.alloc (Obj.cells #[.int .i64 k108a, .slice a108a n108a c108a] 25)).alloc (Obj.cells #[.int .i64 k108b, .slice a108b n108b c108b] 25))).cell? ⟨z108.heap.size + 1, 1, none⟩ = some (.slice a108b n108b c108b) := by rw [cell_of_block (hl109.2)]; rfl
      have h0109 := Below.refl (((z108.alloc (Obj.cells #[.int .i64 k108a, .slice a108a n108a c108a] 25)).alloc (Obj.cells #[.int .i64 k108b, .slice a108b n108b c108b] 25))).heap.size ((z108.alloc (Obj.cells #[.int .i64 k108a, .slice a108a n108a c108a] 25)).alloc (Obj.cells #[.int .i64 k108b, .slice a108b n108b c108b] 25))
      clear ht108a
      clear ht108b
      clear hba109 hbb109 hbc109 hl109 hz108
      have EQ111 := hid (show tyEq (mtOf 5 0 t4a) (mtOf 5 0 t4a) = true from tyEq_refl (mtOf 5 0 t4a))
      go_wp2_with fail
      have hc112 := implTypeSame (mtOf 5 0 t4a) (mtOf 5 0 t4a) _ _ _ _ _ (by have := HC94a.out; omega) (HA94a.out.below h0109) (HA98a.out.below h0109) (fun x hx => (HR94a.out x hx).below h0109) (fun x hx => (HR98a.out x hx).below h0109)
      rw [EQ111.out] at hc112
      refine hc112.mono ?_
      rintro e z113 ⟨rfl, hz113⟩
      have hq113 := below_trans h0109 hz113
      replace xa1_ := cell_keep xa1_ hz113
      replace xb1_ := cell_keep xb1_ hz113
      replace xa20_ := cell_keep xa20_ hz113
      replace xb20_ := cell_keep xb20_ hz113
      replace xa21_ := cell_keep xa21_ hz113
      replace xb21_ := cell_keep xb21_ hz113
      replace xa22_ := cell_keep xa22_ hz113
      replace xb22_ := cell_keep xb22_ hz113
      replace xa23_ := cell_keep xa23_ hz113
      replace xb23_ := cell_keep xb23_ hz113
      replace xa24_ := cell_keep xa24_ hz113
      replace xb24_ := cell_keep xb24_ hz113
      replace xa25_ := cell_keep xa25_ hz113
      replace xb25_ := cell_keep xb25_ hz113
      replace xa26_ := cell_keep xa26_ hz113
      replace xb26_ := cell_keep xb26_ hz113
      replace xa27_ := cell_keep xa27_ hz113
      replace xb27_ := cell_keep xb27_ hz113
      clear hc112 hz113
      have EQ114 := hid (show tyEq (mtOf 5 1 t4a) (mtOf 5 1 t4a) = true from tyEq_refl (mtOf 5 1 t4a))
      go_wp2_with fail
      have hc115 := implTypeSame (mtOf 5 1 t4a) (mtOf 5 1 t4a) _ _ _ _ _ (by have := HC94b.out; omega) (HA94b.out.below hq113) (HA98b.out.below hq113) (fun x hx => (HR94b.out x hx).below hq113) (fun x hx => (HR98b.out x hx).below hq113)
      rw [EQ114.out] at hc115
      refine hc115.mono ?_
      rintro e z116 ⟨rfl, hz116⟩
      have hq116 := below_trans hq113 hz116
      replace xa1_ := cell_keep xa1_ hz116
      replace xb1_ := cell_keep xb1_ hz116
      replace xa20_ := cell_keep xa20_ hz116
      replace xb20_ := cell_keep xb20_ hz116
      replace xa21_ := cell_keep xa21_ hz116
      replace xb21_ := cell_keep xb21_ hz116
      replace xa22_ := cell_keep xa22_ hz116
      replace xb22_ := cell_keep xb22_ hz116
      replace xa23_ := cell_keep xa23_ hz116
      replace xb23_ := cell_keep xb23_ hz116
      replace xa24_ := cell_keep xa24_ hz116
      replace xb24_ := cell_keep xb24_ hz116
      replace xa25_ := cell_keep xa25_ hz116
      replace xb25_ := cell_keep xb25_ hz116
      replace xa26_ := cell_keep xa26_ hz116
      replace xb26_ := cell_keep xb26_ hz116
      replace xa27_ := cell_keep xa27_ hz116
      replace xb27_ := cell_keep xb27_ hz116
      clear hc115 hz116
      have EQ117 := hid (show tyEq (mtOf 4 0 t4a) (mtOf 4 0 t4a) = true from tyEq_refl (mtOf 4 0 t4a))
      go_wp2_with fail
      have hc118 := implTypeSame (mtOf 4 0 t4a) (mtOf 4 0 t4a) _ _ _ _ _ (by have := HC104a.out; omega) (HA104a.out.below hq116) (HA108a.out.below hq116) (fun x hx => (HR104a.out x hx).below hq116) (fun x hx => (HR108a.out x hx).below hq116)
      rw [EQ117.out] at hc118
      refine hc118.mono ?_
      rintro e z119 ⟨rfl, hz119⟩
      have hq119 := below_trans hq116 hz119
      replace xa1_ := cell_keep xa1_ hz119
      replace xb1_ := cell_keep xb1_ hz119
      replace xa20_ := cell_keep xa20_ hz119
      replace xb20_ := cell_keep xb20_ hz119
      replace xa21_ := cell_keep xa21_ hz119
      replace xb21_ := cell_keep xb21_ hz119
      replace xa22_ := cell_keep xa22_ hz119
      replace xb22_ := cell_keep xb22_ hz119
      replace xa23_ := cell_keep xa23_ hz119
      replace xb23_ := cell_keep xb23_ hz119
      replace xa24_ := cell_keep xa24_ hz119
      replace xb24_ := cell_keep xb24_ hz119
      replace xa25_ := cell_keep xa25_ hz119
      replace xb25_ := cell_keep xb25_ hz119
      replace xa26_ := cell_keep xa26_ hz119
      replace xb26_ := cell_keep xb26_ hz119
      replace xa27_ := cell_keep xa27_ hz119
      replace xb27_ := cell_keep xb27_ hz119
      clear hc118 hz119
      have EQ120 := hid (show tyEq (mtOf 4 1 t4a) (mtOf 4 1 t4a) = true from tyEq_refl (mtOf 4 1 t4a))
      go_wp2_with fail
      have hc121 := implTypeSame (mtOf 4 1 t4a) (mtOf 4 1 t4a) _ _ _ _ _ (by have := HC104b.out; omega) (HA104b.out.below hq119) (HA108b.out.below hq119) (fun x hx => (HR104b.out x hx).below hq119) (fun x hx => (HR108b.out x hx).below hq119)
      rw [EQ120.out] at hc121
      refine hc121.mono ?_
      rintro e z122 ⟨rfl, hz122⟩
      have hq122 := below_trans hq119 hz122
      replace xa1_ := cell_keep xa1_ hz122
      replace xb1_ := cell_keep xb1_ hz122
      replace xa20_ := cell_keep xa20_ hz122
      replace xb20_ := cell_keep xb20_ hz122
      replace xa21_ := cell_keep xa21_ hz122
      replace xb21_ := cell_keep xb21_ hz122
      replace xa22_ := cell_keep xa22_ hz122
      replace xb22_ := cell_keep xb22_ hz122
      replace xa23_ := cell_keep xa23_ hz122
      replace xb23_ := cell_keep xb23_ hz122
      replace xa24_ := cell_keep xa24_ hz122
      replace xb24_ := cell_keep xb24_ hz122
      replace xa25_ := cell_keep xa25_ hz122
      replace xb25_ := cell_keep xb25_ hz122
      replace xa26_ := cell_keep xa26_ hz122
      replace xb26_ := cell_keep xb26_ hz122
      replace xa27_ := cell_keep xa27_ hz122
      replace xb27_ := cell_keep xb27_ hz122
      clear hc121 hz122
      have hba125 : Below z122.heap.size z122 (z122.alloc (Obj.cells #[.int .i64 1, .slice none 0 0] 25)) := ((Below.refl _ _).alloc (Nat.le_refl _) _)
      have hbb125 := hba125
      have hbc125 := below_trans hq122 hbb125
      replace HA4a := hid (HA4a.out.below hbc125)
      replace HR4a := hid (fun x hx => (HR4a.out x hx).below hbc125)
      replace HA94a := hid (HA94a.out.below hbc125)
      replace HR94a := hid (fun x hx => (HR94a.out x hx).below hbc125)
      replace HA94b := hid (HA94b.out.below hbc125)
      replace HR94b := hid (fun x hx => (HR94b.out x hx).below hbc125)
      replace HA98a := hid (HA98a.out.below hbc125)
      replace HR98a := hid (fun x hx => (HR98a.out x hx).below hbc125)
      replace HA98b := hid (HA98b.out.below hbc125)
      replace HR98b := hid (fun x hx => (HR98b.out x hx).below hbc125)
      replace HA104a := hid (HA104a.out.below hbc125)
      replace HR104a := hid (fun x hx => (HR104a.out x hx).below hbc125)
      replace HA104b := hid (HA104b.out.below hbc125)
      replace HR104b := hid (fun x hx => (HR104b.out x hx).below hbc125)
      replace HA108a := hid (HA108a.out.below hbc125)
      replace HR108a := hid (fun x hx => (HR108a.out x hx).below hbc125)
      replace HA108b := hid (HA108b.out.below hbc125)
      replace HR108b := hid (fun x hx => (HR108b.out x hx).below hbc125)
      replace HBL := hid (below_trans HBL.out hbc125)
      replace xa1_ := cell_keep xa1_ hbb125
      replace xb1_ := cell_keep xb1_ hbb125
      replace xa20_ := cell_keep xa20_ hbb125
      replace xb20_ := cell_keep xb20_ hbb125
      replace xa21_ := cell_keep xa21_ hbb125
      replace xb21_ := cell_keep xb21_ hbb125
      replace xa22_ := cell_keep xa22_ hbb125
      replace xb22_ := cell_keep xb22_ hbb125
      replace xa23_ := cell_keep xa23_ hbb125
      replace xb23_ := cell_keep xb23_ hbb125
      replace xa24_ := cell_keep xa24_ hbb125
      replace xb24_ := cell_keep xb24_ hbb125
      replace xa25_ := cell_keep xa25_ hbb125
      replace xb25_ := cell_keep xb25_ hbb125
      replace xa26_ := cell_keep xa26_ hbb125
      replace xb26_ := cell_keep xb26_ hbb125
      replace xa27_ := cell_keep xa27_ hbb125
      replace xb27_ := cell_keep xb27_ hbb125
      have hl125 := lay1 z122 (Obj.cells #[.int .i64 1, .slice none 0 0] 25)
      have HAL124 := hid (show Ty.At (z122.alloc (Obj.cells #[.int .i64 1, .slice none 0 0] 25)) (.mk 1 []) (.agg #[.int .i64 1, .slice none 0 0]) [] from Ty.at_mk.2 ⟨_, rfl, .inl ⟨rfl, rfl, _, _, rfl⟩⟩)
      have HRL124 := hid (show ∀ x ∈ ([] : List Nat), Raw (z122.alloc (Obj.cells #[.int .i64 1, .slice none 0 0] 25)) x from fun x hx => by cases hx)
      have HCL124 := hid (show ((.mk 1 []) : Ty).cnt ≤ 0 from by simp [Ty.cnt, cntL])
      have xa28_ : ((z122.alloc (Obj.cells #[.int .i64 1, .slice none 0 0] 25))).cell? ⟨z122.heap.size, 0, none⟩ = some (.int .i64 1) := by rw [cell_of_block (hl125)]; rfl
      have xb28_ : ((z122.alloc (Obj.cells #[.int .i64 1, .slice none 0 0] 25))).cell? ⟨z122.heap.size, 1, none⟩ = some (.slice none 0 0) := by rw [cell_of_block (hl125)]; rfl
      have h0125 := Below.refl ((z122.alloc (Obj.cells #[.int .i64 1, .slice none 0 0] 25))).heap.size (z122.alloc (Obj.cells #[.int .i64 1, .slice none 0 0] 25))
      clear hba125 hbb125 hbc125 hl125
      have hba128 : Below ((z122.alloc (Obj.cells #[.int .i64 1, .slice none 0 0] 25))).heap.size (z122.alloc (Obj.cells #[.int .i64 1, .slice none 0 0] 25)) (((z122.alloc (Obj.cells #[.int .i64 1, .slice none 0 0] 25)).alloc (Obj.cells #[.int .i64 1, .slice none 0 0, .int .i64 1, .slice none 0 0] 25)).alloc (Obj.cells #[.int .i64 5, .slice (some ⟨z122.heap.size + 1, 0, none⟩) 2 2] 25)) := (((Below.refl _ _).alloc (Nat.le_refl _) _).alloc (by simp) _)
      have hbb128 := hba128
      have hbc128 := below_trans h0125 hbb128
      replace HA4a := hid (HA4a.out.below hbc128)
      replace HR4a := hid (fun x hx => (HR4a.out x hx).below hbc128)
      replace HA94a := hid (HA94a.out.below hbc128)
      replace HR94a := hid (fun x hx => (HR94a.out x hx).below hbc128)
      replace HA94b := hid (HA94b.out.below hbc128)
      replace HR94b := hid (fun x hx => (HR94b.out x hx).below hbc128)
      replace HA98a := hid (HA98a.out.below hbc128)
      replace HR98a := hid (fun x hx => (HR98a.out x hx).below hbc128)
      replace HA98b := hid (HA98b.out.below hbc128)
      replace HR98b := hid (fun x hx => (HR98b.out x hx).below hbc128)
      replace HA104a := hid (HA104a.out.below hbc128)
      replace HR104a := hid (fun x hx => (HR104a.out x hx).below hbc128)
      replace HA104b := hid (HA104b.out.below hbc128)
      replace HR104b := hid (fun x hx => (HR104b.out x hx).below hbc128)
      replace HA108a := hid (HA108a.out.below hbc128)
      replace HR108a := hid (fun x hx => (HR108a.out x hx).below hbc128)
      replace HA108b := hid (HA108b.out.below hbc128)
      replace HR108b := hid (fun x hx => (HR108b.out x hx).below hbc128)
      replace HAL124 := hid (HAL124.out.below hbc128)
      replace HRL124 := hid (fun x hx => (HRL124.out x hx).below hbc128)
      replace HBL := hid (below_trans HBL.out hbc128)
      replace xa1_ := cell_keep xa1_ hbb128
      replace xb1_ := cell_keep xb1_ hbb128
      replace xa20_ := cell_keep xa20_ hbb128
      replace xb20_ := cell_keep xb20_ hbb128
      replace xa21_ := cell_keep xa21_ hbb128
      replace xb21_ := cell_keep xb21_ hbb128
      replace xa22_ := cell_keep xa22_ hbb128
      replace xb22_ := cell_keep xb22_ hbb128
      replace xa23_ := cell_keep xa23_ hbb128
      replace xb23_ := cell_keep xb23_ hbb128
      replace xa24_ := cell_keep xa24_ hbb128
      replace xb24_ := cell_keep xb24_ hbb128
      replace xa25_ := cell_keep xa25_ hbb128
      replace xb25_ := cell_keep xb25_ hbb128
      replace xa26_ := cell_keep xa26_ hbb128
      replace xb26_ := cell_keep xb26_ hbb128
      replace xa27_ := cell_keep xa27_ hbb128
      replace xb27_ := cell_keep xb27_ hbb128
      replace xa28_ := cell_keep xa28_ hbb128
      replace xb28_ := cell_keep xb28_ hbb128
      have hl128 := lay2 ((z122.alloc (Obj.cells #[.int .i64 1, .slice none 0 0] 25))) (Obj.cells #[.int .i64 1, .slice none 0 0, .int .i64 1, .slice none 0 0] 25) (Obj.cells #[.int .i64 5, .slice (some ⟨z122.heap.size + 1, 0, none⟩) 2 2] 25)
      have hsz128 : ((z122.alloc (Obj.cells #[.int .i64 1, .slice none 0 0] 25))).heap.size = z122.heap.size + 1 := by simp
      rw [hsz128] at hl128
      clear hsz128
      have HAL127 := hid (show Ty.At (((z122.alloc (Obj.cells #[.int .i64 1, .slice none 0 0] 25)).alloc (Obj.cells #[.int .i64 1, .slice none 0 0, .int .i64 1, .slice none 0 0] 25)).alloc (Obj.cells #[.int .i64 5, .slice (some ⟨z122.heap.size + 1, 0, none⟩) 2 2] 25)) (.mk 5 [.mk 1 [], .mk 1 []]) (.agg #[.int .i64 5, .slice (some ⟨z122.heap.size + 1, 0, none⟩) 2 2]) _ from Ty.at_mk.2 ⟨_, rfl, .inr ⟨z122.heap.size + 1, 0, 2, _, rfl, by simp, by simp, by simp [maxLen], ⟨_, _, _, _, by rw [cell_of_block hl128.1]; rfl, by rw [cell_of_block hl128.1]; rfl, HAL124.out, ⟨_, _, _, [], by rw [cell_of_block hl128.1]; rfl, by rw [cell_of_block hl128.1]; rfl, HAL124.out, rfl, rfl⟩, rfl⟩, rfl⟩⟩)
      have HCL127 := hid (show ((.mk 5 [.mk 1 [], .mk 1 []]) : Ty).cnt ≤ 2 from (by have := HCL124.out; have := HCL124.out; simp only [Ty.cnt, cntL, List.length_cons, List.length_nil] at *; omega))
      have xa29_ : ((((z122.alloc (Obj.cells #[.int .i64 1, .slice none 0 0] 25)).alloc (Obj.cells #[.int .i64 1, .slice none 0 0, .int .i64 1, .slice none 0 0] 25)).alloc (Obj.cells #[.int .i64 5, .slice (some ⟨z122.heap.size + 1, 0, none⟩) 2 2] 25))).cell? ⟨z122.heap.size + 1 + 1, 0, none⟩ = some (.int .i64 5) := by rw [cell_of_block (hl128.2)]; rfl
      have xb29_ : ((((z122.alloc (Obj.cells #[.int .i64 1, .slice none 0 0] 25)).alloc (Obj.cells #[.int .i64 1, .slice none 0 0, .int .i64 1, .slice none 0 0] 25)).alloc (Obj.cells #[.int .i64 5, .slice (some ⟨z122.heap.size + 1, 0, none⟩) 2 2] 25))).cell? ⟨z122.heap.size + 1 + 1, 1, none⟩ = some (.slice (some ⟨z122.heap.size + 1, 0, none⟩) 2 2) := by rw [cell_of_block (hl128.2)]; rfl
      have h0128 := Below.refl ((((z122.alloc (Obj.cells #[.int .i64 1, .slice none 0 0] 25)).alloc (Obj.cells #[.int .i64 1, .slice none 0 0, .int .i64 1, .slice none 0 0] 25)).alloc (Obj.cells #[.int .i64 5, .slice (some ⟨z122.heap.size + 1, 0, none⟩) 2 2] 25))).heap.size (((z122.alloc (Obj.cells #[.int .i64 1, .slice none 0 0] 25)).alloc (Obj.cells #[.int .i64 1, .slice none 0 0, .int .i64 1, .slice none 0 0] 25)).alloc (Obj.cells #[.int .i64 5, .slice (some ⟨z122.heap.size + 1, 0, none⟩) 2 2] 25))
      clear hba128 hbb128 hbc128 hl128
      have hba131 : Below ((((z122.alloc (Obj.cells #[.int .i64 1, .slice none 0 0] 25)).alloc (Obj.cells #[.int .i64 1, .slice none 0 0, .int .i64 1, .slice none 0 0] 25)).alloc (Obj.cells #[.int .i64 5, .slice (some ⟨z122.heap.size + 1, 0, none⟩) 2 2] 25))).heap.size (((z122.alloc (Obj.cells #[.int .i64 1, .slice none 0 0] 25)).alloc (Obj.cells #[.int .i64 1, .slice none 0 0, .int .i64 1, .slice none 0 0] 25)).alloc (Obj.cells #[.int .i64 5, .slice (some ⟨z122.heap.size + 1, 0, none⟩) 2 2] 25)) (((((z122.alloc (Obj.cells #[.int .i64 1, .slice none 0 0] 25)).alloc (Obj.cells #[.int .i64 1, .slice none 0 0, .int .i64 1, .slice none 0 0] 25)).alloc (Obj.cells #[.int .i64 5, .slice (some ⟨z122.heap.size + 1, 0, none⟩) 2 2] 25)).alloc (Obj.cells #[.int .i64 1, .slice none 0 0, .int .i64 1, .slice none 0 0] 25)).alloc (Obj.cells #[.int .i64 4, .slice (some ⟨z122.heap.size + 1 + 1 + 1, 0, none⟩) 2 2] 25)) := (((Below.refl _ _).alloc (Nat.le_refl _) _).alloc (by simp) _)
      have hbb131 := hba131
      have hbc131 := below_trans h0128 hbb131
      replace HA4a := hid (HA4a.out.below hbc131)
      replace HR4a := hid (fun x hx => (HR4a.out x hx).below hbc131)
      replace HA94a := hid (HA94a.out.below hbc131)
      replace HR94a := hid (fun x hx => (HR94a.out x hx).below hbc131)
      replace HA94b := hid (HA94b.out.below hbc131)
      replace HR94b := hid (fun x hx => (HR94b.out x hx).below hbc131)
      replace HA98a := hid (HA98a.out.below hbc131)
      replace HR98a := hid (fun x hx => (HR98a.out x hx).below hbc131)
      replace HA98b := hid (HA98b.out.below hbc131)
      replace HR98b := hid (fun x hx => (HR98b.out x hx).below hbc131)
      replace HA104a := hid (HA104a.out.below hbc131)
      replace HR104a := hid (fun x hx => (HR104a.out x hx).below hbc131)
      replace HA104b := hid (HA104b.out.below hbc131)
      replace HR104b := hid (fun x hx => (HR104b.out x hx).below hbc131)
      replace HA108a := hid (HA108a.out.below hbc131)
      replace HR108a := hid (fun x hx => (HR108a.out x hx).below hbc131)
      replace HA108b := hid (HA108b.out.below hbc131)
      replace HR108b := hid (fun x hx => (HR108b.out x hx).below hbc131)
      replace HAL124 := hid (HAL124.out.below hbc131)
      replace HRL124 := hid (fun x hx => (HRL124.out x hx).below hbc131)
      replace HAL127 := hid (HAL127.out.below hbc131)
      replace HBL := hid (below_trans HBL.out hbc131)
      replace xa1_ := cell_keep xa1_ hbb131
      replace xb1_ := cell_keep xb1_ hbb131
      replace xa20_ := cell_keep xa20_ hbb131
      replace xb20_ := cell_keep xb20_ hbb131
      replace xa21_ := cell_keep xa21_ hbb131
      replace xb21_ := cell_keep xb21_ hbb131
      replace xa22_ := cell_keep xa22_ hbb131
      replace xb22_ := cell_keep xb22_ hbb131
      replace xa23_ := cell_keep xa23_ hbb131
      replace xb23_ := cell_keep xb23_ hbb131
      replace xa24_ := cell_keep xa24_ hbb131
      replace xb24_ := cell_keep xb24_ hbb131
      replace xa25_ := cell_keep xa25_ hbb131
      replace xb25_ := cell_keep xb25_ hbb131
      replace xa26_ := cell_keep xa26_ hbb131
      replace xb26_ := cell_keep xb26_ hbb131
      replace xa27_ := cell_keep xa27_ hbb131
      replace xb27_ := cell_keep xb27_ hbb131
      replace xa28_ := cell_keep xa28_ hbb131
      replace xb28_ := cell_keep xb28_ hbb131
      replace xa29_ := cell_keep xa29_ hbb131
      replace xb29_ := cell_keep xb29_ hbb131
      have hl131 := lay2 ((((z122.alloc (Obj.cells #[.int .i64 1, .slice none 0 0] 25)).alloc (Obj.cells #[.int .i64 1, .slice none 0 0, .int .i64 1, .slice none 0 0] 25)).alloc (Obj.cells #[.int .i64 5, .slice (some ⟨z122.heap.size + 1, 0, none⟩) 2 2] 25))) (Obj.cells #[.int .i64 1, .slice none 0 0, .int .i64 1, .slice none 0 0] 25) (Obj.cells #[.int .i64 4, .slice (some ⟨z122.heap.size + 1 + 1 + 1, 0, none⟩) 2 2] 25)
      have hsz131 : ((((z122.alloc (Obj.cells #[.int .i64 1, .slice none 0 0] 25)).alloc (Obj.cells #[.int .i64 1, .slice none 0 0, .int .i64 1, .slice none 0 0] 25)).alloc (Obj.cells #[.int .i64 5, .slice (some ⟨z122.heap.size + 1, 0, none⟩) 2 2] 25))).heap.size = z122.heap.size + 1 + 1 + 1 := by simp
      rw [hsz131] at hl131
      clear hsz131
      have HAL130 := hid (show Ty.At (((((z122.alloc (Obj.cells #[.int .i64 1, .slice none 0 0] 25)).alloc (Obj.cells #[.int .i64 1, .slice none 0 0, .int .i64 1, .slice none 0 0] 25)).alloc (Obj.cells #[.int .i64 5, .slice (some ⟨z122.heap.size + 1, 0, none⟩) 2 2] 25)).alloc (Obj.cells #[.int .i64 1, .slice none 0 0, .int .i64 1, .slice none 0 0] 25)).alloc (Obj.cells #[.int .i64 4, .slice (some ⟨z122.heap.size + 1 + 1 + 1, 0, none⟩) 2 2] 25)) (.mk 4 [.mk 1 [], .mk 1 []]) (.agg #[.int .i64 4, .slice (some ⟨z122.heap.size + 1 + 1 + 1, 0, none⟩) 2 2]) _ from Ty.at_mk.2 ⟨_, rfl, .inr ⟨z122.heap.size + 1 + 1 + 1, 0, 2, _, rfl, by simp, by simp, by simp [maxLen], ⟨_, _, _, _, by rw [cell_of_block hl131.1]; rfl, by rw [cell_of_block hl131.1]; rfl, HAL124.out, ⟨_, _, _, [], by rw [cell_of_block hl131.1]; rfl, by rw [cell_of_block hl131.1]; rfl, HAL124.out, rfl, rfl⟩, rfl⟩, rfl⟩⟩)
      have HCL130 := hid (show ((.mk 4 [.mk 1 [], .mk 1 []]) : Ty).cnt ≤ 2 from (by have := HCL124.out; have := HCL124.out; simp only [Ty.cnt, cntL, List.length_cons, List.length_nil] at *; omega))
      have xa30_ : ((((((z122.alloc (Obj.cells #[.int .i64 1, .slice none 0 0] 25)).alloc (Obj.cells #[.int .i64 1, .slice none 0 0, .int .i64 1, .slice none 0 0] 25)).alloc (Obj.cells #[.int .i64 5, .slice (some ⟨z122.heap.size + 1, 0, none⟩) 2 2] 25)).alloc (Obj.cells #[.int .i64 1, .slice none 0 0, .int .i64 1, .slice none 0 0] 25)).alloc (Obj.cells #[.int .i64 4, .slice (some ⟨z122.heap.size + 1 + 1 + 1, 0, none⟩) 2 2] 25))).cell? ⟨z122.heap.size + 1 + 1 + 1 + 1, 0, none⟩ = some (.int .i64 4) := by rw [cell_of_block (hl131.2)]; rfl
      have xb30_ : ((((((z122.alloc (Obj.cells #[.int .i64 1, .slice none 0 0] 25)).alloc (Obj.cells #[.int .i64 1, .slice none 0 0, .int .i64 1, .slice none 0 0] 25)).alloc (Obj.cells #[.int .i64 5, .slice (some ⟨z122.heap.size + 1, 0, none⟩) 2 2] 25)).alloc (Obj.cells #[.int .i64 1, .slice none 0 0, .int .i64 1, .slice none 0 0] 25)).alloc (Obj.cells #[.int .i64 4, .slice (some ⟨z122.heap.size + 1 + 1 + 1, 0, none⟩) 2 2] 25))).cell? ⟨z122.heap.size + 1 + 1 + 1 + 1, 1, none⟩ = some (.slice (some ⟨z122.heap.size + 1 + 1 + 1, 0, none⟩) 2 2) := by rw [cell_of_block (hl131.2)]; rfl
      have h0131 := Below.refl ((((((z122.alloc (Obj.cells #[.int .i64 1, .slice none 0 0] 25)).alloc (Obj.cells #[.int .i64 1, .slice none 0 0, .int .i64 1, .slice none 0 0] 25)).alloc (Obj.cells #[.int .i64 5, .slice (some ⟨z122.heap.size + 1, 0, none⟩) 2 2] 25)).alloc (Obj.cells #[.int .i64 1, .slice none 0 0, .int .i64 1, .slice none 0 0] 25)).alloc (Obj.cells #[.int .i64 4, .slice (some ⟨z122.heap.size + 1 + 1 + 1, 0, none⟩) 2 2] 25))).heap.size (((((z122.alloc (Obj.cells #[.int .i64 1, .slice none 0 0] 25)).alloc (Obj.cells #[.int .i64 1, .slice none 0 0, .int .i64 1, .slice none 0 0] 25)).alloc (Obj.cells #[.int .i64 5, .slice (some ⟨z122.heap.size + 1, 0, none⟩) 2 2] 25)).alloc (Obj.cells #[.int .i64 1, .slice none 0 0, .int .i64 1, .slice none 0 0] 25)).alloc (Obj.cells #[.int .i64 4, .slice (some ⟨z122.heap.size + 1 + 1 + 1, 0, none⟩) 2 2] 25))
      clear hba131 hbb131 hbc131 hl131
      have EQ133 := hid (show consOf t4a (.mk 5 [.mk 1 [], .mk 1 []]) = false from (by rw [← mt_cons 5 (by omega) t4a]; exact EQ7.out))
      go_wp2_with fail
      have hc134 := implConsistent t4a (.mk 5 [.mk 1 [], .mk 1 []]) _ _ _ _ _ (HA4a.out.below h0131) (HAL127.out.below h0131)
      rw [EQ133.out] at hc134
      refine hc134.mono ?_
      rintro e z135 ⟨rfl, hz135⟩
      have hq135 := below_trans h0131 hz135
      replace xa1_ := cell_keep xa1_ hz135
      replace xb1_ := cell_keep xb1_ hz135
      replace xa20_ := cell_keep xa20_ hz135
      replace xb20_ := cell_keep xb20_ hz135
      replace xa21_ := cell_keep xa21_ hz135
      replace xb21_ := cell_keep xb21_ hz135
      replace xa22_ := cell_keep xa22_ hz135
      replace xb22_ := cell_keep xb22_ hz135
      replace xa23_ := cell_keep xa23_ hz135
      replace xb23_ := cell_keep xb23_ hz135
      replace xa24_ := cell_keep xa24_ hz135
      replace xb24_ := cell_keep xb24_ hz135
      replace xa25_ := cell_keep xa25_ hz135
      replace xb25_ := cell_keep xb25_ hz135
      replace xa26_ := cell_keep xa26_ hz135
      replace xb26_ := cell_keep xb26_ hz135
      replace xa27_ := cell_keep xa27_ hz135
      replace xb27_ := cell_keep xb27_ hz135
      replace xa28_ := cell_keep xa28_ hz135
      replace xb28_ := cell_keep xb28_ hz135
      replace xa29_ := cell_keep xa29_ hz135
      replace xb29_ := cell_keep xb29_ hz135
      replace xa30_ := cell_keep xa30_ hz135
      replace xb30_ := cell_keep xb30_ hz135
      clear hc134 hz135
      have EQ136 := hid (show consOf t4a (.mk 4 [.mk 1 [], .mk 1 []]) = true from (by rw [← mt_cons 4 (by omega) t4a]; exact EQ101.out))
      go_wp2_with fail
      have hc137 := implConsistent t4a (.mk 4 [.mk 1 [], .mk 1 []]) _ _ _ _ _ (HA4a.out.below hq135) (HAL130.out.below hq135)
      rw [EQ136.out] at hc137
      refine hc137.mono ?_
      rintro e z138 ⟨rfl, hz138⟩
      have hq138 := below_trans hq135 hz138
      replace xa1_ := cell_keep xa1_ hz138
      replace xb1_ := cell_keep xb1_ hz138
      replace xa20_ := cell_keep xa20_ hz138
      replace xb20_ := cell_keep xb20_ hz138
      replace xa21_ := cell_keep xa21_ hz138
      replace xb21_ := cell_keep xb21_ hz138
      replace xa22_ := cell_keep xa22_ hz138
      replace xb22_ := cell_keep xb22_ hz138
      replace xa23_ := cell_keep xa23_ hz138
      replace xb23_ := cell_keep xb23_ hz138
      replace xa24_ := cell_keep xa24_ hz138
      replace xb24_ := cell_keep xb24_ hz138
      replace xa25_ := cell_keep xa25_ hz138
      replace xb25_ := cell_keep xb25_ hz138
      replace xa26_ := cell_keep xa26_ hz138
      replace xb26_ := cell_keep xb26_ hz138
      replace xa27_ := cell_keep xa27_ hz138
      replace xb27_ := cell_keep xb27_ hz138
      replace xa28_ := cell_keep xa28_ hz138
      replace xb28_ := cell_keep xb28_ hz138
      replace xa29_ := cell_keep xa29_ hz138
      replace xb29_ := cell_keep xb29_ hz138
      replace xa30_ := cell_keep xa30_ hz138
      replace xb30_ := cell_keep xb30_ hz138
      clear hc137 hz138
      go_wp2_with fail
      go_ret
      exact ⟨rfl, below_trans HBL.out hq138⟩
    · have EQ101 := hid hq101
      clear hq101
      go_wp2_with fail
      have hc140 := implMatchFun t4a _ _ _ (HA4a.out.below h099) (by have := HC4a.out; omega)
      rw [EQ101.out] at hc140
      refine hc140.mono ?_
      rintro e z141 ⟨v141a, v141b, f141a, f141b, M141, rfl, ht141a, ht141b, hf141a, hf141b, -, -, -, -, hz141⟩
      obtain ⟨k141a, n141a, a141a, c141a, rfl⟩ := ht141a.agg
      obtain ⟨k141b, n141b, a141b, c141b, rfl⟩ := ht141b.agg
      clear hc140
      have hba142 : Below z141.heap.size z141 ((z141.alloc (Obj.cells #[.int .i64 k141a, .slice a141a n141a c141a] 25)).alloc (Obj.cells #[.int .i64 k141b, .slice a141b n141b c141b] 25)) := (((Below.refl _ _).alloc (Nat.le_refl _) _).alloc (by simp) _)
      have hbb142 := below_trans hz141 hba142
      have hbc142 := below_trans h099 hbb142
      replace HA4a := hid (HA4a.out.below hbc142)
      replace HR4a := hid (fun x hx => (HR4a.out x hx).below hbc142)
      replace HA94a := hid (HA94a.out.below hbc142)
      replace HR94a := hid (fun x hx => (HR94a.out x hx).below hbc142)
      replace HA94b := hid (HA94b.out.below hbc142)
      replace HR94b := hid (fun x hx => (HR94b.out x hx).below hbc142)
      replace HA98a := hid (HA98a.out.below hbc142)
      replace HR98a := hid (fun x hx => (HR98a.out x hx).below hbc142)
      replace HA98b := hid (HA98b.out.below hbc142)
      replace HR98b := hid (fun x hx => (HR98b.out x hx).below hbc142)
      replace HBL := hid (below_trans HBL.out hbc142)
      replace xa1_ := cell_keep xa1_ hbb142
      replace xb1_ := cell_keep xb1_ hbb142
      replace xa20_ := cell_keep xa20_ hbb142
      replace xb20_ := cell_keep xb20_ hbb142
      replace xa21_ := cell_keep xa21_ hbb142
      replace xb21_ := cell_keep xb21_ hbb142
      replace xa22_ := cell_keep xa22_ hbb142
      replace xb22_ := cell_keep xb22_ hbb142
      replace xa23_ := cell_keep xa23_ hbb142
      replace xb23_ := cell_keep xb23_ hbb142
      have hl142 := lay2 z141 (Obj.cells #[.int .i64 k141a, .slice a141a n141a c141a] 25) (Obj.cells #[.int .i64 k141b, .slice a141b n141b c141b] 25)
      have HA141a := hid (ht141a.below hba142)
      have HR141a := hid (show ∀ x ∈ f141a, Raw ((z141.alloc (Obj.cells #[.int .i64 k141a, .slice a141a n141a c141a] 25)).alloc (Obj.cells #[.int .i64 k141b, .slice a141b n141b c141b] 25)) x from fun x hx => Raw.below (Fresh.raw ht141a hf141a x hx) hba142)
      have HC141a := hid (show ((mtOf 4 0 t4a) : Ty).cnt ≤ 100 from (Nat.le_trans (by have := mt_cnt 4 (by omega) t4a; omega) HC4a.out))
      have HA141b := hid (ht141b.below hba142)
      have HR141b := hid (show ∀ x ∈ f141b, Raw ((z141.alloc (Obj.cells #[.int .i64 k141a, .slice a141a n141a c141a] 25)).alloc (Obj.cells #[.int .i64 k141b, .slice a141b n141b c141b] 25)) x from fun x hx => Raw.below (Fresh.raw ht141b hf141b x hx) hba142)
      have HC141b := hid (show ((mtOf 4 1 t4a) : Ty).cnt ≤ 100 from (Nat.le_trans (by have := mt_cnt 4 (by omega) t4a; omega) HC4a.out))
      have xa31_ : (((z141.alloc (Obj.cells #[.int .i64 k141a, .slice a141a n141a c141a] 25)).alloc (Obj.cells #[.int .i64 k141b, .slice a141b n141b c141b] 25))).cell? ⟨z141.heap.size, 0, none⟩ = some (.int .i64 k141a) := by rw [cell_of_block (hl142.1)]; rfl
      have xb31_ : (((z141.alloc (Obj.cells #[.int .i64 k141a, .slice a141a n141a c141a] 25)).alloc (Obj.cells #[.int .i64 k141b, .slice a141b n141b c141b] 25))).cell? ⟨z141.heap.size, 1, none⟩ = some (.slice a141a n141a c141a) := by rw [cell_of_block (hl142.1)]; rfl
      have xa32_ : (((z141.alloc (Obj.cells #[.int .i64 k141a, .slice a141a n141a c141a] 25)).alloc (Obj.cells #[.int .i64 k141b, .slice a141b n141b c141b] 25))).cell? ⟨z141.heap.size + 1, 0, none⟩ = some (.int .i64 k141b) := by rw [cell_of_block (hl142.2)]; rfl
      have xb32_ : (((z141.alloc (Obj.cells #[.int .i64 k141a, .slice a141a n141a c141a] 25)).alloc (Obj.cells #[.int .i64 k141b, .slice a141b n141b c141b] 25))).cell? ⟨z141.heap.size + 1, 1, none⟩ = some (.slice a141b n141b c141b) := by rw [cell_of_block (hl142.2)]; rfl
      have h0142 := Below.refl (((z141.alloc (Obj.cells #[.int .i64 k141a, .slice a141a n141a c141a] 25)).alloc (Obj.cells #[.int .i64 k141b, .slice a141b n141b c141b] 25))).heap.size ((z141.alloc (Obj.cells #[.int .i64 k141a, .slice a141a n141a c141a] 25)).alloc (Obj.cells #[.int .i64 k141b, .slice a141b n141b c141b] 25))
      clear ht141a
      clear ht141b
      clear hba142 hbb142 hbc142 hl142 hz141
      go_wp2_with fail
      have hc144 := specMatchFun t4a _ _ _ (HA4a.out.below h0142) (by have := HC4a.out; omega)
      rw [EQ101.out] at hc144
      refine hc144.mono ?_
      rintro e z145 ⟨v145a, v145b, f145a, f145b, M145, rfl, ht145a, ht145b, hf145a, hf145b, -, -, -, -, hz145⟩
      obtain ⟨k145a, n145a, a145a, c145a, rfl⟩ := ht145a.agg
      obtain ⟨k145b, n145b, a145b, c145b, rfl⟩ := ht145b.agg
      clear hc144
      have hba146 : Below z145.heap.size z145 ((z145.alloc (Obj.cells #[.int .i64 k145a, .slice a145a n145a c145a] 25)).alloc (Obj.cells #[.int .i64 k145b, .slice a145b n145b c145b] 25)) := (((Below.refl _ _).alloc (Nat.le_refl _) _).alloc (by simp) _)
      have hbb146 := below_trans hz145 hba146
      have hbc146 := below_trans h0142 hbb146
      replace HA4a := hid (HA4a.out.below hbc146)
      replace HR4a := hid (fun x hx => (HR4a.out x hx).below hbc146)
      replace HA94a := hid (HA94a.out.below hbc146)
      replace HR94a := hid (fun x hx => (HR94a.out x hx).below hbc146)
      replace HA94b := hid (HA94b.out.below hbc146)
      replace HR94b := hid (fun x hx => (HR94b.out x hx).below hbc146)
      replace HA98a := hid (HA98a.out.below hbc146)
      replace HR98a := hid (fun x hx => (HR98a.out x hx).below hbc146)
      replace HA98b := hid (HA98b.out.below hbc146)
      replace HR98b := hid (fun x hx => (HR98b.out x hx).below hbc146)
      replace HA141a := hid (HA141a.out.below hbc146)
      replace HR141a := hid (fun x hx => (HR141a.out x hx).below hbc146)
      replace HA141b := hid (HA141b.out.below hbc146)
      replace HR141b := hid (fun x hx => (HR141b.out x hx).below hbc146)
      replace HBL := hid (below_trans HBL.out hbc146)
      replace xa1_ := cell_keep xa1_ hbb146
      replace xb1_ := cell_keep xb1_ hbb146
      replace xa20_ := cell_keep xa20_ hbb146
      replace xb20_ := cell_keep xb20_ hbb146
      replace xa21_ := cell_keep xa21_ hbb146
      replace xb21_ := cell_keep xb21_ hbb146
      replace xa22_ := cell_keep xa22_ hbb146
      replace xb22_ := cell_keep xb22_ hbb146
      replace xa23_ := cell_keep xa23_ hbb146
      replace xb23_ := cell_keep xb23_ hbb146
      replace xa31_ := cell_keep xa31_ hbb146
      replace xb31_ := cell_keep xb31_ hbb146
      replace xa32_ := cell_keep xa32_ hbb146
      replace xb32_ := cell_keep xb32_ hbb146
      have hl146 := lay2 z145 (Obj.cells #[.int .i64 k145a, .slice a145a n145a c145a] 25) (Obj.cells #[.int .i64 k145b, .slice a145b n145b c145b] 25)
      have HA145a := hid (ht145a.below hba146)
      have HR145a := hid (show ∀ x ∈ f145a, Raw ((z145.alloc (Obj.cells #[.int .i64 k145a, .slice a145a n145a c145a] 25)).alloc (Obj.cells #[.int .i64 k145b, .slice a145b n145b c145b] 25)) x from fun x hx => Raw.below (Fresh.raw ht145a hf145a x hx) hba146)
      have HC145a := hid (show ((mtOf 4 0 t4a) : Ty).cnt ≤ 100 from (Nat.le_trans (by have := mt_cnt 4 (by omega) t4a; omega) HC4a.out))
      have HA145b := hid (ht145b.below hba146)
      have HR145b := hid (show ∀ x ∈ f145b, Raw ((z145.alloc (Obj.cells #[.int .i64 k145a, .slice a145a n145a c145a] 25)).alloc (Obj.cells #[.int .i64 k145b, .slice a145b n145b c145b] 25)) x from fun x hx => Raw.below (Fresh.raw ht145b hf145b x hx) hba146)
      have HC145b := hid (show ((mtOf 4 1 t4a) : Ty).cnt ≤ 100 from (Nat.le_trans (by have := mt_cnt 4 (by omega) t4a; omega) HC4a.out))
      have xa33_ : (((z145.alloc (Obj.cells #[.int .i64 k145a, .slice a145a n145a c145a] 25)).alloc (Obj.cells #[.int .i64 k145b, .slice a145b n145b c145b] 25))).cell? ⟨z145.heap.size, 0, none⟩ = some (.int .i64 k145a) := by rw [cell_of_block (hl146.1)]; rfl
      have xb33_ : (((z145.alloc (Obj.cells #[.int .i64 k145a, .slice a145a n145a c145a] 25)).alloc (Obj.cells #[.int .i64 k145b, .slice a145b n145b c145b] 25))).cell? ⟨z145.heap.size, 1, none⟩ = some (.slice a145a n145a c145a) := by rw [cell_of_block (hl146.1)]; rfl
      have xa34_ : (((z145.alloc (Obj.cells #[.int .i64 k145a, .slice a145a n145a c145a] 25)).alloc (Obj.cells #[.int .i64 k145b, .slice a145b n145b c145b] 25))).cell? ⟨z145.heap.size + 1, 0, none⟩ = some (.int .i64 k145b) := by rw [cell_of_block (hl146.2)]; rfl
      have xb34_ : (((z145.alloc (Obj.cells #[.int .i64 k145a, .slice a145a n145a c145a] 25)).alloc (Obj.cells #[.int .i64 k145b, .slice a145b n145b c145b] 25))).cell? ⟨z145.heap.size + 1, 1, none⟩ = some (.slice a145b n145b c145b) := by rw [cell_of_block (hl146.2)]; rfl
      have h0146 := Below.refl (((z145.alloc (Obj.cells #[.int .i64 k145a, .slice a145a n145a c145a] 25)).alloc (Obj.cells #[.int .i64 k145b, .slice a145b n145b c145b] 25))).heap.size ((z145.alloc (Obj.cells #[.int .i64 k145a, .slice a145a n145a c145a] 25)).alloc (Obj.cells #[.int .i64 k145b, .slice a145b n145b c145b] 25))
      clear ht145a
      clear ht145b
      clear hba146 hbb146 hbc146 hl146 hz145
      have EQ148 := hid (show tyEq (mtOf 5 0 t4a) (mtOf 5 0 t4a) = true from tyEq_refl (mtOf 5 0 t4a))
      go_wp2_with fail
      have hc149 := implTypeSame (mtOf 5 0 t4a) (mtOf 5 0 t4a) _ _ _ _ _ (by have := HC94a.out; omega) (HA94a.out.below h0146) (HA98a.out.below h0146) (fun x hx => (HR94a.out x hx).below h0146) (fun x hx => (HR98a.out x hx).below h0146)
      rw [EQ148.out] at hc149
      refine hc149.mono ?_
      rintro e z150 ⟨rfl, hz150⟩
      have hq150 := below_trans h0146 hz150
      replace xa1_ := cell_keep xa1_ hz150
      replace xb1_ := cell_keep xb1_ hz150
      replace xa20_ := cell_keep xa20_ hz150
      replace xb20_ := cell_keep xb20_ hz150
      replace xa21_ := cell_keep xa21_ hz150
      replace xb21_ := cell_keep xb21_ hz150
      replace xa22_ := cell_keep xa22_ hz150
      replace xb22_ := cell_keep xb22_ hz150
      replace xa23_ := cell_keep xa23_ hz150
      replace xb23_ := cell_keep xb23_ hz150
      replace xa31_ := cell_keep xa31_ hz150
      replace xb31_ := cell_keep xb31_ hz150
      replace xa32_ := cell_keep xa32_ hz150
      replace xb32_ := cell_keep xb32_ hz150
      replace xa33_ := cell_keep xa33_ hz150
      replace xb33_ := cell_keep xb33_ hz150
      replace xa34_ := cell_keep xa34_ hz150
      replace xb34_ := cell_keep xb34_ hz150
      clear hc149 hz150
      have EQ151 := hid (show tyEq (mtOf 5 1 t4a) (mtOf 5 1 t4a) = true from tyEq_refl (mtOf 5 1 t4a))
      go_wp2_with fail
      have hc152 := implTypeSame (mtOf 5 1 t4a) (mtOf 5 1 t4a) _ _ _ _ _ (by have := HC94b.out; omega) (HA94b.out.below hq150) (HA98b.out.below hq150) (fun x hx => (HR94b.out x hx).below hq150) (fun x hx => (HR98b.out x hx).below hq150)
      rw [EQ151.out] at hc152
      refine hc152.mono ?_
      rintro e z153 ⟨rfl, hz153⟩
      have hq153 := below_trans hq150 hz153
      replace xa1_ := cell_keep xa1_ hz153
      replace xb1_ := cell_keep xb1_ hz153
      replace xa20_ := cell_keep xa20_ hz153
      replace xb20_ := cell_keep xb20_ hz153
      replace xa21_ := cell_keep xa21_ hz153
      replace xb21_ := cell_keep xb21_ hz153
      replace xa22_ := cell_keep xa22_ hz153
      replace xb22_ := cell_keep xb22_ hz153
      replace xa23_ := cell_keep xa23_ hz153
      replace xb23_ := cell_keep xb23_ hz153
      replace xa31_ := cell_keep xa31_ hz153
      replace xb31_ := cell_keep xb31_ hz153
      replace xa32_ := cell_keep xa32_ hz153
      replace xb32_ := cell_keep xb32_ hz153
      replace xa33_ := cell_keep xa33_ hz153
      replace xb33_ := cell_keep xb33_ hz153
      replace xa34_ := cell_keep xa34_ hz153
      replace xb34_ := cell_keep xb34_ hz153
      clear hc152 hz153
      have EQ154 := hid (show tyEq (mtOf 4 0 t4a) (mtOf 4 0 t4a) = true from tyEq_refl (mtOf 4 0 t4a))
      go_wp2_with fail
      have hc155 := implTypeSame (mtOf 4 0 t4a) (mtOf 4 0 t4a) _ _ _ _ _ (by have := HC141a.out; omega) (HA141a.out.below hq153) (HA145a.out.below hq153) (fun x hx => (HR141a.out x hx).below hq153) (fun x hx => (HR145a.out x hx).below hq153)
      rw [EQ154.out] at hc155
      refine hc155.mono ?_
      rintro e z156 ⟨rfl, hz156⟩
      have hq156 := below_trans hq153 hz156
      replace xa1_ := cell_keep xa1_ hz156
      replace xb1_ := cell_keep xb1_ hz156
      replace xa20_ := cell_keep xa20_ hz156
      replace xb20_ := cell_keep xb20_ hz156
      replace xa21_ := cell_keep xa21_ hz156
      replace xb21_ := cell_keep xb21_ hz156
      replace xa22_ := cell_keep xa22_ hz156
      replace xb22_ := cell_keep xb22_ hz156
      replace xa23_ := cell_keep xa23_ hz156
      replace xb23_ := cell_keep xb23_ hz156
      replace xa31_ := cell_keep xa31_ hz156
      replace xb31_ := cell_keep xb31_ hz156
      replace xa32_ := cell_keep xa32_ hz156
      replace xb32_ := cell_keep xb32_ hz156
      replace xa33_ := cell_keep xa33_ hz156
      replace xb33_ := cell_keep xb33_ hz156
      replace xa34_ := cell_keep xa34_ hz156
      replace xb34_ := cell_keep xb34_ hz156
      clear hc155 hz156
      have EQ157 := hid (show tyEq (mtOf 4 1 t4a) (mtOf 4 1 t4a) = true from tyEq_refl (mtOf 4 1 t4a))
      go_wp2_with fail
      have hc158 := implTypeSame (mtOf 4 1 t4a) (mtOf 4 1 t4a) _ _ _ _ _ (by have := HC141b.out; omega) (HA141b.out.below hq156) (HA145b.out.below hq156) (fun x hx => (HR141b.out x hx).below hq156) (fun x hx => (HR145b.out x hx).below hq156)
      rw [EQ157.out] at hc158
      refine hc158.mono ?_
      rintro e z159 ⟨rfl, hz159⟩
      have hq159 := below_trans hq156 hz159
      replace xa1_ := cell_keep xa1_ hz159
      replace xb1_ := cell_keep xb1_ hz159
      replace xa20_ := cell_keep xa20_ hz159
      replace xb20_ := cell_keep xb20_ hz159
      replace xa21_ := cell_keep xa21_ hz159
      replace xb21_ := cell_keep xb21_ hz159
      replace xa22_ := cell_keep xa22_ hz159
      replace xb22_ := cell_keep xb22_ hz159
      replace xa23_ := cell_keep xa23_ hz159
      replace xb23_ := cell_keep xb23_ hz159
      replace xa31_ := cell_keep xa31_ hz159
      replace xb31_ := cell_keep xb31_ hz159
      replace xa32_ := cell_keep xa32_ hz159
      replace xb32_ := cell_keep xb32_ hz159
      replace xa33_ := cell_keep xa33_ hz159
      replace xb33_ := cell_keep xb33_ hz159
      replace xa34_ := cell_keep xa34_ hz159
      replace xb34_ := cell_keep xb34_ hz159
      clear hc158 hz159
      have hba162 : Below z159.heap.size z159 (z159.alloc (Obj.cells #[.int .i64 1, .slice none 0 0] 25)) := ((Below.refl _ _).alloc (Nat.le_refl _) _)
      have hbb162 := hba162
      have hbc162 := below_trans hq159 hbb162
      replace HA4a := hid (HA4a.out.below hbc162)
      replace HR4a := hid (fun x hx => (HR4a.out x hx).below hbc162)
      replace HA94a := hid (HA94a.out.below hbc162)
      replace HR94a := hid (fun x hx => (HR94a.out x hx).below hbc162)
      replace HA94b := hid (HA94b.out.below hbc162)
      replace HR94b := hid (fun x hx => (HR94b.out x hx).below hbc162)
      replace HA98a := hid (HA98a.out.below hbc162)
      replace HR98a := hid (fun x hx => (HR98a.out x hx).below hbc162)
      replace HA98b := hid (HA98b.out.below hbc162)
      replace HR98b := hid (fun x hx => (HR98b.out x hx).below hbc162)
      replace HA141a := hid (HA141a.out.below hbc162)
      replace HR141a := hid (fun x hx => (HR141a.out x hx).below hbc162)
      replace HA141b := hid (HA141b.out.below hbc162)
      replace HR141b := hid (fun x hx => (HR141b.out x hx).below hbc162)
      replace HA145a := hid (HA145a.out.below hbc162)
      replace HR145a := hid (fun x hx => (HR145a.out x hx).below hbc162)
      replace HA145b := hid (HA145b.out.below hbc162)
      replace HR145b := hid (fun x hx => (HR145b.out x hx).below hbc162)
      replace HBL := hid (below_trans HBL.out hbc162)
      replace xa1_ := cell_keep xa1_ hbb162
      replace xb1_ := cell_keep xb1_ hbb162
      replace xa20_ := cell_keep xa20_ hbb162
      replace xb20_ := cell_keep xb20_ hbb162
      replace xa21_ := cell_keep xa21_ hbb162
      replace xb21_ := cell_keep xb21_ hbb162
      replace xa22_ := cell_keep xa22_ hbb162
      replace xb22_ := cell_keep xb22_ hbb162
      replace xa23_ := cell_keep xa23_ hbb162
      replace xb23_ := cell_keep xb23_ hbb162
      replace xa31_ := cell_keep xa31_ hbb162
      replace xb31_ := cell_keep xb31_ hbb162
      replace xa32_ := cell_keep xa32_ hbb162
      replace xb32_ := cell_keep xb32_ hbb162
      replace xa33_ := cell_keep xa33_ hbb162
      replace xb33_ := cell_keep xb33_ hbb162
      replace xa34_ := cell_keep xa34_ hbb162
      replace xb34_ := cell_keep xb34_ hbb162
      have hl162 := lay1 z159 (Obj.cells #[.int .i64 1, .slice none 0 0] 25)
      have HAL161 := hid (show Ty.At (z159.alloc (Obj.cells #[.int .i64 1, .slice none 0 0] 25)) (.mk 1 []) (.agg #[.int .i64 1, .slice none 0 0]) [] from Ty.at_mk.2 ⟨_, rfl, .inl ⟨rfl, rfl, _, _, rfl⟩⟩)
      have HRL161 := hid (show ∀ x ∈ ([] : List Nat), Raw (z159.alloc (Obj.cells #[.int .i64 1, .slice none 0 0] 25)) x from fun x hx => by cases hx)
      have HCL161 := hid (show ((.mk 1 []) : Ty).cnt ≤ 0 from by simp [Ty.cnt, cntL])
      have xa35_ : ((z159.alloc (Obj.cells #[.int .i64 1, .slice none 0 0] 25))).cell? ⟨z159.heap.size, 0, none⟩ = some (.int .i64 1) := by rw [cell_of_block (hl162)]; rfl
      have xb35_ : ((z159.alloc (Obj.cells #[.int .i64 1, .slice none 0 0] 25))).cell? ⟨z159.heap.size, 1, none⟩ = some (.slice none 0 0) := by rw [cell_of_block (hl162)]; rfl
      have h0162 := Below.refl ((z159.alloc (Obj.cells #[.int .i64 1, .slice none 0 0] 25))).heap.size (z159.alloc (Obj.cells #[.int .i64 1, .slice none 0 0] 25))
      clear hba162 hbb162 hbc162 hl162
      have hba165 : Below ((z159.alloc (Obj.cells #[.int .i64 1, .slice none 0 0] 25))).heap.size (z159.alloc (Obj.cells #[.int .i64 1, .slice none 0 0] 25)) (((z159.alloc (Obj.cells #[.int .i64 1, .slice none 0 0] 25)).alloc (Obj.cells #[.int .i64 1, .slice none 0 0, .int .i64 1, .slice none 0 0] 25)).alloc (Obj.cells #[.int .i64 5, .slice (some ⟨z159.heap.size + 1, 0, none⟩) 2 2] 25)) := (((Below.refl _ _).alloc (Nat.le_refl _) _).alloc (by simp) _)
      have hbb165 := hba165
      have hbc165 := below_trans h0162 hbb165
      replace HA4a := hid (HA4a.out.below hbc165)
      replace HR4a := hid (fun x hx => (HR4a.out x hx).below hbc165)
      replace HA94a := hid (HA94a.out.below hbc165)
      replace HR94a := hid (fun x hx => (HR94a.out x hx).below hbc165)
      replace HA94b := hid (HA94b.out.below hbc165)
      replace HR94b := hid (fun x hx => (HR94b.out x hx).below hbc165)
      replace HA98a := hid (HA98a.out.below hbc165)
      replace HR98a := hid (fun x hx => (HR98a.out x hx).below hbc165)
      replace HA98b := hid (HA98b.out.below hbc165)
      replace HR98b := hid (fun x hx => (HR98b.out x hx).below hbc165)
      replace HA141a := hid (HA141a.out.below hbc165)
      replace HR141a := hid (fun x hx => (HR141a.out x hx).below hbc165)
      replace HA141b := hid (HA141b.out.below hbc165)
      replace HR141b := hid (fun x hx => (HR141b.out x hx).below hbc165)
      replace HA145a := hid (HA145a.out.below hbc165)
      replace HR145a := hid (fun x hx => (HR145a.out x hx).below hbc165)
      replace HA145b := hid (HA145b.out.below hbc165)
      replace HR145b := hid (fun x hx => (HR145b.out x hx).below hbc165)
      replace HAL161 := hid (HAL161.out.below hbc165)
      replace HRL161 := hid (fun x hx => (HRL161.out x hx).below hbc165)
      replace HBL := hid (below_trans HBL.out hbc165)
      replace xa1_ := cell_keep xa1_ hbb165
      replace xb1_ := cell_keep xb1_ hbb165
      replace xa20_ := cell_keep xa20_ hbb165
      replace xb20_ := cell_keep xb20_ hbb165
      replace xa21_ := cell_keep xa21_ hbb165
      replace xb21_ := cell_keep xb21_ hbb165
      replace xa22_ := cell_keep xa22_ hbb165
      replace xb22_ := cell_keep xb22_ hbb165
      replace xa23_ := cell_keep xa23_ hbb165
      replace xb23_ := cell_keep xb23_ hbb165
      replace xa31_ := cell_keep xa31_ hbb165
      replace xb31_ := cell_keep xb31_ hbb165
      replace xa32_ := cell_keep xa32_ hbb165
      replace xb32_ := cell_keep xb32_ hbb165
      replace xa33_ := cell_keep xa33_ hbb165
      replace xb33_ := cell_keep xb33_ hbb165
      replace xa34_ := cell_keep xa34_ hbb165
      replace xb34_ := cell_keep xb34_ hbb165
      replace xa35_ := cell_keep xa35_ hbb165
      replace xb35_ := cell_keep xb35_ hbb165
      have hl165 := lay2 ((z159.alloc (Obj.cells #[.int .i64 1, .slice none 0 0] 25))) (Obj.cells #[.int .i64 1, .slice none 0 0, .int .i64 1, .slice none 0 0] 25) (Obj.cells #[.int .i64 5, .slice (some ⟨z159.heap.size + 1, 0, none⟩) 2 2] 25)
      have hsz165 : ((z159.alloc (Obj.cells #[.int .i64 1, .slice none 0 0] 25))).heap.size = z159.heap.size + 1 := by simp
      rw [hsz165] at hl165
      clear hsz165
      have HAL164 := hid (show Ty.At (((z159.alloc (Obj.cells #[.int .i64 1, .slice none 0 0] 25)).alloc (Obj.cells #[.int .i64 1, .slice none 0 0, .int .i64 1, .slice none 0 0] 25)).alloc (Obj.cells #[.int .i64 5, .slice (some ⟨z159.heap.size + 1, 0, none⟩) 2 2] 25)) (.mk 5 [.mk 1 [], .mk 1 []]) (.agg #[.int .i64 5, .slice (some ⟨z159.heap.size + 1, 0, none⟩) 2 2]) _ from Ty.at_mk.2 ⟨_, rfl, .inr ⟨z159.heap.size + 1, 0, 2, _, rfl, by simp, by simp, by simp [maxLen], ⟨_, _, _, _, by rw [cell_of_block hl165.1]; rfl, by rw [cell_of_block hl165.1]; rfl, HAL161.out, ⟨_, _, _, [], by rw [cell_of_block hl165.1]; rfl, by rw [cell_of_block hl165.1]; rfl, HAL161.out, rfl, rfl⟩, rfl⟩, rfl⟩⟩)
      have HCL164 := hid (show ((.mk 5 [.mk 1 [], .mk 1 []]) : Ty).cnt ≤ 2 from (by have := HCL161.out; have := HCL161.out; simp only [Ty.cnt, cntL, List.length_cons, List.length_nil] at *; omega))
      have xa36_ : ((((z159.alloc (Obj.cells #[.int .i64 1, .slice none 0 0] 25)).alloc (Obj.cells #[.int .i64 1, .slice none 0 0, .int .i64 1, .slice none 0 0] 25)).alloc (Obj.cells #[.int .i64 5, .slice (some ⟨z159.heap.size + 1, 0, none⟩) 2 2] 25))).cell? ⟨z159.heap.size + 1 + 1, 0, none⟩ = some (.int .i64 5) := by rw [cell_of_block (hl165.2)]; rfl
      have xb36_ : ((((z159.alloc (Obj.cells #[.int .i64 1, .slice none 0 0] 25)).alloc (Obj.cells #[.int .i64 1, .slice none 0 0, .int .i64 1, .slice none 0 0] 25)).alloc (Obj.cells #[.int .i64 5, .slice (some ⟨z159.heap.size + 1, 0, none⟩) 2 2] 25))).cell? ⟨z159.heap.size + 1 + 1, 1, none⟩ = some (.slice (some ⟨z159.heap.size + 1, 0, none⟩) 2 2) := by rw [cell_of_block (hl165.2)]; rfl
      have h0165 := Below.refl ((((z159.alloc (Obj.cells #[.int .i64 1, .slice none 0 0] 25)).alloc (Obj.cells #[.int .i64 1, .slice none 0 0, .int .i64 1, .slice none 0 0] 25)).alloc (Obj.cells #[.int .i64 5, .slice (some ⟨z159.heap.size + 1, 0, none⟩) 2 2] 25))).heap.size (((z159.alloc (Obj.cells #[.int .i64 1, .slice none 0 0] 25)).alloc (Obj.cells #[.int .i64 1, .slice none 0 0, .int .i64 1, .slice none 0 0] 25)).alloc (Obj.cells #[.int .i64 5, .slice (some ⟨z159.heap.size + 1, 0, none⟩) 2 2] 25))
      clear hba165 hbb165 hbc165 hl165
      have hba168 : Below ((((z159.alloc (Obj.cells #[.int .i64 1, .slice none 0 0] 25)).alloc (Obj.cells #[.int .i64 1, .slice none 0 0, .int .i64 1, .slice none 0 0] 25)).alloc (Obj.cells #[.int .i64 5, .slice (some ⟨z159.heap.size + 1, 0, none⟩) 2 2] 25))).heap.size (((z159.alloc (Obj.cells #[.int .i64 1, .slice none 0 0] 25)).alloc (Obj.cells #[.int .i64 1, .slice none 0 0, .int .i64 1, .slice none 0 0] 25)).alloc (Obj.cells #[.int .i64 5, .slice (some ⟨z159.heap.size + 1, 0, none⟩) 2 2] 25)) (((((z159.alloc (Obj.cells #[.int .i64 1, .slice none 0 0] 25)).alloc (Obj.cells #[.int .i64 1, .slice none 0 0, .int .i64 1, .slice none 0 0] 25)).alloc (Obj.cells #[.int .i64 5, .slice (some ⟨z159.heap.size + 1, 0, none⟩) 2 2] 25)).alloc (Obj.cells #[.int .i64 1, .slice none 0 0, .int .i64 1, .slice none 0 0] 25)).alloc (Obj.cells #[.int .i64 4, .slice (some ⟨z159.heap.size + 1 + 1 + 1, 0, none⟩) 2 2] 25)) := (((Below.refl _ _).alloc (Nat.le_refl _) _).alloc (by simp) _)
      have hbb168 := hba168
      have hbc168 := below_trans h0165 hbb168
      replace HA4a := hid (HA4a.out.below hbc168)
      replace HR4a := hid (fun x hx => (HR4a.out x hx).below hbc168)
      replace HA94a := hid (HA94a.out.below hbc168)
      replace HR94a := hid (fun x hx => (HR94a.out x hx).below hbc168)
      replace HA94b := hid (HA94b.out.below hbc168)
      replace HR94b := hid (fun x hx => (HR94b.out x hx).below hbc168)
      replace HA98a := hid (HA98a.out.below hbc168)
      replace HR98a := hid (fun x hx => (HR98a.out x hx).below hbc168)
      replace HA98b := hid (HA98b.out.below hbc168)
      replace HR98b := hid (fun x hx => (HR98b.out x hx).below hbc168)
      replace HA141a := hid (HA141a.out.below hbc168)
      replace HR141a := hid (fun x hx => (HR141a.out x hx).below hbc168)
      replace HA141b := hid (HA141b.out.below hbc168)
      replace HR141b := hid (fun x hx => (HR141b.out x hx).below hbc168)
      replace HA145a := hid (HA145a.out.below hbc168)
      replace HR145a := hid (fun x hx => (HR145a.out x hx).below hbc168)
      replace HA145b := hid (HA145b.out.below hbc168)
      replace HR145b := hid (fun x hx => (HR145b.out x hx).below hbc168)
      replace HAL161 := hid (HAL161.out.below hbc168)
      replace HRL161 := hid (fun x hx => (HRL161.out x hx).below hbc168)
      replace HAL164 := hid (HAL164.out.below hbc168)
      replace HBL := hid (below_trans HBL.out hbc168)
      replace xa1_ := cell_keep xa1_ hbb168
      replace xb1_ := cell_keep xb1_ hbb168
      replace xa20_ := cell_keep xa20_ hbb168
      replace xb20_ := cell_keep xb20_ hbb168
      replace xa21_ := cell_keep xa21_ hbb168
      replace xb21_ := cell_keep xb21_ hbb168
      replace xa22_ := cell_keep xa22_ hbb168
      replace xb22_ := cell_keep xb22_ hbb168
      replace xa23_ := cell_keep xa23_ hbb168
      replace xb23_ := cell_keep xb23_ hbb168
      replace xa31_ := cell_keep xa31_ hbb168
      replace xb31_ := cell_keep xb31_ hbb168
      replace xa32_ := cell_keep xa32_ hbb168
      replace xb32_ := cell_keep xb32_ hbb168
      replace xa33_ := cell_keep xa33_ hbb168
      replace xb33_ := cell_keep xb33_ hbb168
      replace xa34_ := cell_keep xa34_ hbb168
      replace xb34_ := cell_keep xb34_ hbb168
      replace xa35_ := cell_keep xa35_ hbb168
      replace xb35_ := cell_keep xb35_ hbb168
      replace xa36_ := cell_keep xa36_ hbb168
      replace xb36_ := cell_keep xb36_ hbb168
      have hl168 := lay2 ((((z159.alloc (Obj.cells #[.int .i64 1, .slice none 0 0] 25)).alloc (Obj.cells #[.int .i64 1, .slice none 0 0, .int .i64 1, .slice none 0 0] 25)).alloc (Obj.cells #[.int .i64 5, .slice (some ⟨z159.heap.size + 1, 0, none⟩) 2 2] 25))) (Obj.cells #[.int .i64 1, .slice none 0 0, .int .i64 1, .slice none 0 0] 25) (Obj.cells #[.int .i64 4, .slice (some ⟨z159.heap.size + 1 + 1 + 1, 0, none⟩) 2 2] 25)
      have hsz168 : ((((z159.alloc (Obj.cells #[.int .i64 1, .slice none 0 0] 25)).alloc (Obj.cells #[.int .i64 1, .slice none 0 0, .int .i64 1, .slice none 0 0] 25)).alloc (Obj.cells #[.int .i64 5, .slice (some ⟨z159.heap.size + 1, 0, none⟩) 2 2] 25))).heap.size = z159.heap.size + 1 + 1 + 1 := by simp
      rw [hsz168] at hl168
      clear hsz168
      have HAL167 := hid (show Ty.At (((((z159.alloc (Obj.cells #[.int .i64 1, .slice none 0 0] 25)).alloc (Obj.cells #[.int .i64 1, .slice none 0 0, .int .i64 1, .slice none 0 0] 25)).alloc (Obj.cells #[.int .i64 5, .slice (some ⟨z159.heap.size + 1, 0, none⟩) 2 2] 25)).alloc (Obj.cells #[.int .i64 1, .slice none 0 0, .int .i64 1, .slice none 0 0] 25)).alloc (Obj.cells #[.int .i64 4, .slice (some ⟨z159.heap.size + 1 + 1 + 1, 0, none⟩) 2 2] 25)) (.mk 4 [.mk 1 [], .mk 1 []]) (.agg #[.int .i64 4, .slice (some ⟨z159.heap.size + 1 + 1 + 1, 0, none⟩) 2 2]) _ from Ty.at_mk.2 ⟨_, rfl, .inr ⟨z159.heap.size + 1 + 1 + 1, 0, 2, _, rfl, by simp, by simp, by simp [maxLen], ⟨_, _, _, _, by rw [cell_of_block hl168.1]; rfl, by rw [cell_of_block hl168.1]; rfl, HAL161.out, ⟨_, _, _, [], by rw [cell_of_block hl168.1]; rfl, by rw [cell_of_block hl168.1]; rfl, HAL161.out, rfl, rfl⟩, rfl⟩, rfl⟩⟩)
      have HCL167 := hid (show ((.mk 4 [.mk 1 [], .mk 1 []]) : Ty).cnt ≤ 2 from (by have := HCL161.out; have := HCL161.out; simp only [Ty.cnt, cntL, List.length_cons, List.length_nil] at *; omega))
      have xa37_ : ((((((z159.alloc (Obj.cells #[.int .i64 1, .slice none 0 0] 25)).alloc (Obj.cells #[.int .i64 1, .slice none 0 0, .int .i64 1, .slice none 0 0] 25)).alloc (Obj.cells #[.int .i64 5, .slice (some ⟨z159.heap.size + 1, 0, none⟩) 2 2] 25)).alloc (Obj.cells #[.int .i64 1, .slice none 0 0, .int .i64 1, .slice none 0 0] 25)).alloc (Obj.cells #[.int .i64 4, .slice (some ⟨z159.heap.size + 1 + 1 + 1, 0, none⟩) 2 2] 25))).cell? ⟨z159.heap.size + 1 + 1 + 1 + 1, 0, none⟩ = some (.int .i64 4) := by rw [cell_of_block (hl168.2)]; rfl
      have xb37_ : ((((((z159.alloc (Obj.cells #[.int .i64 1, .slice none 0 0] 25)).alloc (Obj.cells #[.int .i64 1, .slice none 0 0, .int .i64 1, .slice none 0 0] 25)).alloc (Obj.cells #[.int .i64 5, .slice (some ⟨z159.heap.size + 1, 0, none⟩) 2 2] 25)).alloc (Obj.cells #[.int .i64 1, .slice none 0 0, .int .i64 1, .slice none 0 0] 25)).alloc (Obj.cells #[.int .i64 4, .slice (some ⟨z159.heap.size + 1 + 1 + 1, 0, none⟩) 2 2] 25))).cell? ⟨z159.heap.size + 1 + 1 + 1 + 1, 1, none⟩ = some (.slice (some ⟨z159.heap.size + 1 + 1 + 1, 0, none⟩) 2 2) := by rw [cell_of_block (hl168.2)]; rfl
      have h0168 := Below.refl ((((((z159.alloc (Obj.cells #[.int .i64 1, .slice none 0 0] 25)).alloc (Obj.cells #[.int .i64 1, .slice none 0 0, .int .i64 1, .slice none 0 0] 25)).alloc (Obj.cells #[.int .i64 5, .slice (some ⟨z159.heap.size + 1, 0, none⟩) 2 2] 25)).alloc (Obj.cells #[.int .i64 1, .slice none 0 0, .int .i64 1, .slice none 0 0] 25)).alloc (Obj.cells #[.int .i64 4, .slice (some ⟨z159.heap.size + 1 + 1 + 1, 0, none⟩) 2 2] 25))).heap.size (((((z159.alloc (Obj.cells #[.int .i64 1, .slice none 0 0] 25)).alloc (Obj.cells #[.int .i64 1, .slice none 0 0, .int .i64 1, .slice none 0 0] 25)).alloc (Obj.cells #[.int .i64 5, .slice (some ⟨z159.heap.size + 1, 0, none⟩) 2 2] 25)).alloc (Obj.cells #[.int .i64 1, .slice none 0 0, .int .i64 1, .slice none 0 0] 25)).alloc (Obj.cells #[.int .i64 4, .slice (some ⟨z159.heap.size + 1 + 1 + 1, 0, none⟩) 2 2] 25))
      clear hba168 hbb168 hbc168 hl168
      have EQ170 := hid (show consOf t4a (.mk 5 [.mk 1 [], .mk 1 []]) = false from (by rw [← mt_cons 5 (by omega) t4a]; exact EQ7.out))
      go_wp2_with fail
      have hc171 := implConsistent t4a (.mk 5 [.mk 1 [], .mk 1 []]) _ _ _ _ _ (HA4a.out.below h0168) (HAL164.out.below h0168)
      rw [EQ170.out] at hc171
      refine hc171.mono ?_
      rintro e z172 ⟨rfl, hz172⟩
      have hq172 := below_trans h0168 hz172
      replace xa1_ := cell_keep xa1_ hz172
      replace xb1_ := cell_keep xb1_ hz172
      replace xa20_ := cell_keep xa20_ hz172
      replace xb20_ := cell_keep xb20_ hz172
      replace xa21_ := cell_keep xa21_ hz172
      replace xb21_ := cell_keep xb21_ hz172
      replace xa22_ := cell_keep xa22_ hz172
      replace xb22_ := cell_keep xb22_ hz172
      replace xa23_ := cell_keep xa23_ hz172
      replace xb23_ := cell_keep xb23_ hz172
      replace xa31_ := cell_keep xa31_ hz172
      replace xb31_ := cell_keep xb31_ hz172
      replace xa32_ := cell_keep xa32_ hz172
      replace xb32_ := cell_keep xb32_ hz172
      replace xa33_ := cell_keep xa33_ hz172
      replace xb33_ := cell_keep xb33_ hz172
      replace xa34_ := cell_keep xa34_ hz172
      replace xb34_ := cell_keep xb34_ hz172
      replace xa35_ := cell_keep xa35_ hz172
      replace xb35_ := cell_keep xb35_ hz172
      replace xa36_ := cell_keep xa36_ hz172
      replace xb36_ := cell_keep xb36_ hz172
      replace xa37_ := cell_keep xa37_ hz172
      replace xb37_ := cell_keep xb37_ hz172
      clear hc171 hz172
      have EQ173 := hid (show consOf t4a (.mk 4 [.mk 1 [], .mk 1 []]) = false from (by rw [← mt_cons 4 (by omega) t4a]; exact EQ101.out))
      go_wp2_with fail
      have hc174 := implConsistent t4a (.mk 4 [.mk 1 [], .mk 1 []]) _ _ _ _ _ (HA4a.out.below hq172) (HAL167.out.below hq172)
      rw [EQ173.out] at hc174
      refine hc174.mono ?_
      rintro e z175 ⟨rfl, hz175⟩
      have hq175 := below_trans hq172 hz175
      replace xa1_ := cell_keep xa1_ hz175
      replace xb1_ := cell_keep xb1_ hz175
      replace xa20_ := cell_keep xa20_ hz175
      replace xb20_ := cell_keep xb20_ hz175
      replace xa21_ := cell_keep xa21_ hz175
      replace xb21_ := cell_keep xb21_ hz175
      replace xa22_ := cell_keep xa22_ hz175
      replace xb22_ := cell_keep xb22_ hz175
      replace xa23_ := cell_keep xa23_ hz175
      replace xb23_ := cell_keep xb23_ hz175
      replace xa31_ := cell_keep xa31_ hz175
      replace xb31_ := cell_keep xb31_ hz175
      replace xa32_ := cell_keep xa32_ hz175
      replace xb32_ := cell_keep xb32_ hz175
      replace xa33_ := cell_keep xa33_ hz175
      replace xb33_ := cell_keep xb33_ hz175
      replace xa34_ := cell_keep xa34_ hz175
      replace xb34_ := cell_keep xb34_ hz175
      replace xa35_ := cell_keep xa35_ hz175
      replace xb35_ := cell_keep xb35_ hz175
      replace xa36_ := cell_keep xa36_ hz175
      replace xb36_ := cell_keep xb36_ hz175
      replace xa37_ := cell_keep xa37_ hz175
      replace xb37_ := cell_keep xb37_ hz175
      clear hc174 hz175
      go_wp2_with fail
      go_ret
      exact ⟨rfl, below_trans HBL.out hq175⟩
end Go.Proofs.Ytelbpgdlcnnabaa
