/- The specification's l6Two of two identities. -/
import Derived.Test.YtgekfnodmgkdaaaCmF
import Derived.Test.YtgekfnodmgkdaaaCs6
namespace Go.Proofs.Ytgekfnodmgkdaaa
open Go.RowKit

set_option maxRecDepth 100000 in
set_option maxHeartbeats 2000000 in
theorem l6Two_id (n : Nat) (ga gb : Int) (la lb : Int) (ts us : List Co) (va vb : Value) (fa fb : List Nat) (w : World) (h1 : ga ≠ 1) (hts : ts = []) (hla : la = 0) (hata : (Co.mk 1 ga la ts).At w va fa) (hatb : (Co.mk 1 gb lb us).At w vb fb) :
    Calls Try.prog 54 #[va, vb] w (MadeO w (cmpo (n + 1) (.mk 1 ga la ts) (.mk 1 gb lb us))) := by
  have hata0 := hata
  have hatb0 := hatb
  obtain ⟨sa, rfl, hsa⟩ := Co.at_mk.1 hata
  obtain ⟨sb, rfl, hsb⟩ := Co.at_mk.1 hatb
  obtain ⟨aa, ca, rfl⟩ := hsa.shape
  obtain ⟨ab, cb, rfl⟩ := hsb.shape
  generalize hla : ts.length = na at *
  generalize hlb : us.length = nb at *
  have hb0 : Below w.heap.size w (((w.alloc (Obj.cells #[.int .i64 1, .int .i64 ga, .int .i64 la, .slice aa na ca] 44)).alloc (Obj.cells #[.int .i64 1, .int .i64 gb, .int .i64 lb, .slice ab nb cb] 44)).alloc (Obj.cells #[.int .i64 0, .int .i64 0, .int .i64 0, .slice none 0 0] 44)) := (((Below.refl _ _).alloc (Nat.le_refl _) _).alloc (by simp) _).alloc (by simp; omega) _
  have hs0 : ((((w.alloc (Obj.cells #[.int .i64 1, .int .i64 ga, .int .i64 la, .slice aa na ca] 44)).alloc (Obj.cells #[.int .i64 1, .int .i64 gb, .int .i64 lb, .slice ab nb cb] 44)).alloc (Obj.cells #[.int .i64 0, .int .i64 0, .int .i64 0, .slice none 0 0] 44))).heap.size = w.heap.size + 1 + 1 + 1 := by simp
  obtain ⟨bA, bB, bZ⟩ := three3 (Below.refl ((((w.alloc (Obj.cells #[.int .i64 1, .int .i64 ga, .int .i64 la, .slice aa na ca] 44)).alloc (Obj.cells #[.int .i64 1, .int .i64 gb, .int .i64 lb, .slice ab nb cb] 44)).alloc (Obj.cells #[.int .i64 0, .int .i64 0, .int .i64 0, .slice none 0 0] 44))).heap.size (((w.alloc (Obj.cells #[.int .i64 1, .int .i64 ga, .int .i64 la, .slice aa na ca] 44)).alloc (Obj.cells #[.int .i64 1, .int .i64 gb, .int .i64 lb, .slice ab nb cb] 44)).alloc (Obj.cells #[.int .i64 0, .int .i64 0, .int .i64 0, .slice none 0 0] 44)))
  have x0 : ((((w.alloc (Obj.cells #[.int .i64 1, .int .i64 ga, .int .i64 la, .slice aa na ca] 44)).alloc (Obj.cells #[.int .i64 1, .int .i64 gb, .int .i64 lb, .slice ab nb cb] 44)).alloc (Obj.cells #[.int .i64 0, .int .i64 0, .int .i64 0, .slice none 0 0] 44))).cell? ⟨w.heap.size, 0, none⟩ = some (.int .i64 1) := by rw [cell_of_block bA]; rfl
  have x1 : ((((w.alloc (Obj.cells #[.int .i64 1, .int .i64 ga, .int .i64 la, .slice aa na ca] 44)).alloc (Obj.cells #[.int .i64 1, .int .i64 gb, .int .i64 lb, .slice ab nb cb] 44)).alloc (Obj.cells #[.int .i64 0, .int .i64 0, .int .i64 0, .slice none 0 0] 44))).cell? ⟨w.heap.size, 1, none⟩ = some (.int .i64 ga) := by rw [cell_of_block bA]; rfl
  have x2 : ((((w.alloc (Obj.cells #[.int .i64 1, .int .i64 ga, .int .i64 la, .slice aa na ca] 44)).alloc (Obj.cells #[.int .i64 1, .int .i64 gb, .int .i64 lb, .slice ab nb cb] 44)).alloc (Obj.cells #[.int .i64 0, .int .i64 0, .int .i64 0, .slice none 0 0] 44))).cell? ⟨w.heap.size, 2, none⟩ = some (.int .i64 la) := by rw [cell_of_block bA]; rfl
  have x3 : ((((w.alloc (Obj.cells #[.int .i64 1, .int .i64 ga, .int .i64 la, .slice aa na ca] 44)).alloc (Obj.cells #[.int .i64 1, .int .i64 gb, .int .i64 lb, .slice ab nb cb] 44)).alloc (Obj.cells #[.int .i64 0, .int .i64 0, .int .i64 0, .slice none 0 0] 44))).cell? ⟨w.heap.size, 3, none⟩ = some (.slice aa na ca) := by rw [cell_of_block bA]; rfl
  have y0 : ((((w.alloc (Obj.cells #[.int .i64 1, .int .i64 ga, .int .i64 la, .slice aa na ca] 44)).alloc (Obj.cells #[.int .i64 1, .int .i64 gb, .int .i64 lb, .slice ab nb cb] 44)).alloc (Obj.cells #[.int .i64 0, .int .i64 0, .int .i64 0, .slice none 0 0] 44))).cell? ⟨w.heap.size + 1, 0, none⟩ = some (.int .i64 1) := by rw [cell_of_block bB]; rfl
  have y1 : ((((w.alloc (Obj.cells #[.int .i64 1, .int .i64 ga, .int .i64 la, .slice aa na ca] 44)).alloc (Obj.cells #[.int .i64 1, .int .i64 gb, .int .i64 lb, .slice ab nb cb] 44)).alloc (Obj.cells #[.int .i64 0, .int .i64 0, .int .i64 0, .slice none 0 0] 44))).cell? ⟨w.heap.size + 1, 1, none⟩ = some (.int .i64 gb) := by rw [cell_of_block bB]; rfl
  have y2 : ((((w.alloc (Obj.cells #[.int .i64 1, .int .i64 ga, .int .i64 la, .slice aa na ca] 44)).alloc (Obj.cells #[.int .i64 1, .int .i64 gb, .int .i64 lb, .slice ab nb cb] 44)).alloc (Obj.cells #[.int .i64 0, .int .i64 0, .int .i64 0, .slice none 0 0] 44))).cell? ⟨w.heap.size + 1, 2, none⟩ = some (.int .i64 lb) := by rw [cell_of_block bB]; rfl
  have y3 : ((((w.alloc (Obj.cells #[.int .i64 1, .int .i64 ga, .int .i64 la, .slice aa na ca] 44)).alloc (Obj.cells #[.int .i64 1, .int .i64 gb, .int .i64 lb, .slice ab nb cb] 44)).alloc (Obj.cells #[.int .i64 0, .int .i64 0, .int .i64 0, .slice none 0 0] 44))).cell? ⟨w.heap.size + 1, 3, none⟩ = some (.slice ab nb cb) := by rw [cell_of_block bB]; rfl
  have HM := hid (fun (w' : World) (h : Below ((((w.alloc (Obj.cells #[.int .i64 1, .int .i64 ga, .int .i64 la, .slice aa na ca] 44)).alloc (Obj.cells #[.int .i64 1, .int .i64 gb, .int .i64 lb, .slice ab nb cb] 44)).alloc (Obj.cells #[.int .i64 0, .int .i64 0, .int .i64 0, .slice none 0 0] 44))).heap.size (((w.alloc (Obj.cells #[.int .i64 1, .int .i64 ga, .int .i64 la, .slice aa na ca] 44)).alloc (Obj.cells #[.int .i64 1, .int .i64 gb, .int .i64 lb, .slice ab nb cb] 44)).alloc (Obj.cells #[.int .i64 0, .int .i64 0, .int .i64 0, .slice none 0 0] 44)) w') => (h.block (w.heap.size + 1 + 1) (by omega)).trans bZ)
  have HB := hid hb0
  have HZ0 := hid hs0
  have HS0 := hid (show ∀ w', Below ((((w.alloc (Obj.cells #[.int .i64 1, .int .i64 ga, .int .i64 la, .slice aa na ca] 44)).alloc (Obj.cells #[.int .i64 1, .int .i64 gb, .int .i64 lb, .slice ab nb cb] 44)).alloc (Obj.cells #[.int .i64 0, .int .i64 0, .int .i64 0, .slice none 0 0] 44))).heap.size (((w.alloc (Obj.cells #[.int .i64 1, .int .i64 ga, .int .i64 la, .slice aa na ca] 44)).alloc (Obj.cells #[.int .i64 1, .int .i64 gb, .int .i64 lb, .slice ab nb cb] 44)).alloc (Obj.cells #[.int .i64 0, .int .i64 0, .int .i64 0, .slice none 0 0] 44)) w' → (fun w' => w'.cell? ⟨w.heap.size, 0, none⟩ = some (.int .i64 1) ∧ w'.cell? ⟨w.heap.size, 1, none⟩ = some (.int .i64 ga) ∧ w'.cell? ⟨w.heap.size, 2, none⟩ = some (.int .i64 la) ∧ w'.cell? ⟨w.heap.size, 3, none⟩ = some (.slice aa na ca) ∧ w'.cell? ⟨w.heap.size + 1, 0, none⟩ = some (.int .i64 1) ∧ w'.cell? ⟨w.heap.size + 1, 1, none⟩ = some (.int .i64 gb) ∧ w'.cell? ⟨w.heap.size + 1, 2, none⟩ = some (.int .i64 lb) ∧ w'.cell? ⟨w.heap.size + 1, 3, none⟩ = some (.slice ab nb cb)) w' from fun w' h => ⟨cell_keep x0 h, cell_keep x1 h, cell_keep x2 h, cell_keep x3 h, cell_keep y0 h, cell_keep y1 h, cell_keep y2 h, cell_keep y3 h⟩)
  have HA := hid (hata0.below hb0)
  have HBB := hid (hatb0.below hb0)
  clear hb0 hs0 bA bB bZ hata hatb hata0 hatb0 hsa hsb hla hlb
  have hr : cmpo (n + 1) (.mk 1 ga la ts) (.mk 1 gb lb us) = if ga = gb then some (.mk 1 ga 0 []) else none := by simp [cmpo, cmpN, h1, hts, hla]
  have hne0 : w.heap.size ≠ w.heap.size + 1 + 1 := by omega
  have hne1 : w.heap.size + 1 ≠ w.heap.size + 1 + 1 := by omega
  have HR := hid hr
  clear hr h1 hts hla HA HBB
  go_enter Try.func54, Try.ntmps54
  go_wp2_with fail
  refine regionL (s := 8) (S0 := (fun w' => w'.cell? ⟨w.heap.size, 0, none⟩ = some (.int .i64 1) ∧ w'.cell? ⟨w.heap.size, 1, none⟩ = some (.int .i64 ga) ∧ w'.cell? ⟨w.heap.size, 2, none⟩ = some (.int .i64 la) ∧ w'.cell? ⟨w.heap.size, 3, none⟩ = some (.slice aa na ca) ∧ w'.cell? ⟨w.heap.size + 1, 0, none⟩ = some (.int .i64 1) ∧ w'.cell? ⟨w.heap.size + 1, 1, none⟩ = some (.int .i64 gb) ∧ w'.cell? ⟨w.heap.size + 1, 2, none⟩ = some (.int .i64 lb) ∧ w'.cell? ⟨w.heap.size + 1, 3, none⟩ = some (.slice ab nb cb))) (S1 := (fun w' => w'.cell? ⟨w.heap.size, 0, none⟩ = some (.int .i64 1) ∧ w'.cell? ⟨w.heap.size, 1, none⟩ = some (.int .i64 ga) ∧ w'.cell? ⟨w.heap.size, 2, none⟩ = some (.int .i64 la) ∧ w'.cell? ⟨w.heap.size, 3, none⟩ = some (.slice aa na ca) ∧ w'.cell? ⟨w.heap.size + 1, 0, none⟩ = some (.int .i64 1) ∧ w'.cell? ⟨w.heap.size + 1, 1, none⟩ = some (.int .i64 gb) ∧ w'.cell? ⟨w.heap.size + 1, 2, none⟩ = some (.int .i64 lb) ∧ w'.cell? ⟨w.heap.size + 1, 3, none⟩ = some (.slice ab nb cb))) (by kernel_rfl) (HS0.out _ (below_drew _)) ((HS0.out _ (below_drew _))) (fun hS0 => ?_)
  refine takeL0 (i := 0) (v := ?vq1) rfl rfl (by kernel_rfl) (by kernel_rfl) (by kernel_rfl) (by decide) (by kernel_rfl) (by kernel_rfl) (fun _ _ _ h => h) (Or.inl ⟨by rfl, ?hyq1⟩) (by assumption) ?_
  case hyq1 => (intro w hSw; (try dsimp only at hSw); go_simp; (try with_reducible rfl))
  try simp only [Act.put, List.setIfInBounds_toArray, List.set_cons_zero, List.set_cons_succ]
  refine takeL0 (i := 1) (v := ?vq2) rfl rfl (by kernel_rfl) (by kernel_rfl) (by kernel_rfl) (by decide) (by kernel_rfl) (by kernel_rfl) (fun _ _ _ h => h) (Or.inl ⟨by rfl, ?hyq2⟩) (by assumption) ?_
  case hyq2 => (intro w hSw; (try dsimp only at hSw); go_simp; (try with_reducible rfl))
  try simp only [Act.put, List.setIfInBounds_toArray, List.set_cons_zero, List.set_cons_succ]
  refine takeL (i := 3) (v := ?vq3) rfl (by kernel_rfl) (by kernel_rfl) (by kernel_rfl) (by decide) (fun _ _ _ h => h) (Or.inl ⟨by rfl, ?hyq3⟩) (by assumption) ?_
  case hyq3 => (intro w hSw; (try dsimp only at hSw); go_simp; (try with_reducible rfl))
  try simp only [Act.put, List.setIfInBounds_toArray, List.set_cons_zero, List.set_cons_succ]
  refine takeL (i := 4) (v := ?vq4) rfl (by kernel_rfl) (by kernel_rfl) (by kernel_rfl) (by decide) (fun _ _ _ h => h) (Or.inl ⟨by rfl, ?hyq4⟩) (by assumption) ?_
  case hyq4 => (intro w hSw; (try dsimp only at hSw); go_simp; (try with_reducible rfl))
  try simp only [Act.put, List.setIfInBounds_toArray, List.set_cons_zero, List.set_cons_succ]
  refine takeL (i := 5) (v := ?vq5) rfl (by kernel_rfl) (by kernel_rfl) (by kernel_rfl) (by decide) (fun _ _ _ h => h) (Or.inl ⟨by rfl, ?hyq5⟩) (by assumption) ?_
  case hyq5 => (intro w hSw; (try dsimp only at hSw); go_simp; (try with_reducible rfl))
  try simp only [Act.put, List.setIfInBounds_toArray, List.set_cons_zero, List.set_cons_succ]
  refine takeL (i := 6) (v := ?vq6) rfl (by kernel_rfl) (by kernel_rfl) (by kernel_rfl) (by decide) (fun _ _ _ h => h) (Or.inl ⟨by rfl, ?hyq6⟩) (by assumption) ?_
  case hyq6 => (intro w hSw; (try dsimp only at hSw); go_simp; (try with_reducible rfl))
  try simp only [Act.put, List.setIfInBounds_toArray, List.set_cons_zero, List.set_cons_succ]
  refine takeL (i := 7) (v := ?vq7) rfl (by kernel_rfl) (by kernel_rfl) (by kernel_rfl) (by decide) (fun _ _ _ h => h) (Or.inl ⟨by rfl, ?hyq7⟩) (by assumption) ?_
  case hyq7 => (intro w hSw; (try dsimp only at hSw); go_simp; (try with_reducible rfl))
  try simp only [Act.put, List.setIfInBounds_toArray, List.set_cons_zero, List.set_cons_succ]
  refine readyL (rs := [2]) (by kernel_rfl) (by simp) ?_
  refine AllReadyL.cons rfl (fun K hK => ?_) AllReadyL.nil
  go_simp
  refine (l6Id_any _ _).mono ?_
  rintro e w1 ⟨rfl, hb1⟩
  have hB1 := below_trans (below_drew ((((w.alloc (Obj.cells #[.int .i64 1, .int .i64 ga, .int .i64 la, .slice aa na ca] 44)).alloc (Obj.cells #[.int .i64 1, .int .i64 gb, .int .i64 lb, .slice ab nb cb] 44)).alloc (Obj.cells #[.int .i64 0, .int .i64 0, .int .i64 0, .slice none 0 0] 44)))) hb1
  refine hK.out _ _ ?_ (fun hS1 => ?_)
  · exact ⟨(HS0.out _ hB1), fun _ => HS0.out _ hB1⟩
  clear hK K hS0
  try simp only [Act.put, List.setIfInBounds_toArray, List.set_cons_zero, List.set_cons_succ]
  refine readyL (rs := [8]) (by kernel_rfl) (by simp) ?_
  refine AllReadyL.cons rfl (fun K hK => ?_) AllReadyL.nil
  have bM := HM.out _ hB1
  have z0 := (cell_of_block (o := 0) bM).trans (show _ = some (.int .i64 0) from rfl)
  have z1 := (cell_of_block (o := 1) bM).trans (show _ = some (.int .i64 0) from rfl)
  have z2 := (cell_of_block (o := 2) bM).trans (show _ = some (.int .i64 0) from rfl)
  have z3 := (cell_of_block (o := 3) bM).trans (show _ = some (.slice none 0 0) from rfl)
  have yz := fun o => frozen_of_block (o := o) bM
  go_simp
  refine hK.out _ _ ?_ (fun hS2 => ?_)
  · exact ⟨⟨(by rw [cell_setCell_ne, cell_setCell_ne, cell_setCell_ne, cell_setCell_ne]; exact (HS0.out _ hB1).1; all_goals exact hne0), (by rw [cell_setCell_ne, cell_setCell_ne, cell_setCell_ne, cell_setCell_ne]; exact (HS0.out _ hB1).2.1; all_goals exact hne0), (by rw [cell_setCell_ne, cell_setCell_ne, cell_setCell_ne, cell_setCell_ne]; exact (HS0.out _ hB1).2.2.1; all_goals exact hne0), (by rw [cell_setCell_ne, cell_setCell_ne, cell_setCell_ne, cell_setCell_ne]; exact (HS0.out _ hB1).2.2.2.1; all_goals exact hne0), (by rw [cell_setCell_ne, cell_setCell_ne, cell_setCell_ne, cell_setCell_ne]; exact (HS0.out _ hB1).2.2.2.2.1; all_goals exact hne1), (by rw [cell_setCell_ne, cell_setCell_ne, cell_setCell_ne, cell_setCell_ne]; exact (HS0.out _ hB1).2.2.2.2.2.1; all_goals exact hne1), (by rw [cell_setCell_ne, cell_setCell_ne, cell_setCell_ne, cell_setCell_ne]; exact (HS0.out _ hB1).2.2.2.2.2.2.1; all_goals exact hne1), (by rw [cell_setCell_ne, cell_setCell_ne, cell_setCell_ne, cell_setCell_ne]; exact (HS0.out _ hB1).2.2.2.2.2.2.2; all_goals exact hne1)⟩, fun h => absurd (h.symm.trans (show _ = true by kernel_rfl)) (by decide)⟩
  clear hK K hS1
  try simp only [Act.put, List.setIfInBounds_toArray, List.set_cons_zero, List.set_cons_succ]
  refine readyL (rs := [9]) (by kernel_rfl) (by simp) ?_
  refine AllReadyL.cons rfl (fun K hK => ?_) AllReadyL.nil
  go_simp
  refine hK.out _ _ ?_ (fun hS3 => ?_)
  · exact ⟨⟨(by rw [cell_setCell_ne, cell_setCell_ne, cell_setCell_ne, cell_setCell_ne]; exact (HS0.out _ hB1).1; all_goals exact hne0), (by rw [cell_setCell_ne, cell_setCell_ne, cell_setCell_ne, cell_setCell_ne]; exact (HS0.out _ hB1).2.1; all_goals exact hne0), (by rw [cell_setCell_ne, cell_setCell_ne, cell_setCell_ne, cell_setCell_ne]; exact (HS0.out _ hB1).2.2.1; all_goals exact hne0), (by rw [cell_setCell_ne, cell_setCell_ne, cell_setCell_ne, cell_setCell_ne]; exact (HS0.out _ hB1).2.2.2.1; all_goals exact hne0), (by rw [cell_setCell_ne, cell_setCell_ne, cell_setCell_ne, cell_setCell_ne]; exact (HS0.out _ hB1).2.2.2.2.1; all_goals exact hne1), (by rw [cell_setCell_ne, cell_setCell_ne, cell_setCell_ne, cell_setCell_ne]; exact (HS0.out _ hB1).2.2.2.2.2.1; all_goals exact hne1), (by rw [cell_setCell_ne, cell_setCell_ne, cell_setCell_ne, cell_setCell_ne]; exact (HS0.out _ hB1).2.2.2.2.2.2.1; all_goals exact hne1), (by rw [cell_setCell_ne, cell_setCell_ne, cell_setCell_ne, cell_setCell_ne]; exact (HS0.out _ hB1).2.2.2.2.2.2.2; all_goals exact hne1)⟩, fun h => absurd (h.symm.trans (show _ = true by kernel_rfl)) (by decide)⟩
  clear hK K hS2
  try simp only [Act.put, List.setIfInBounds_toArray, List.set_cons_zero, List.set_cons_succ]
  refine doneL (by kernel_rfl) ?_ _
  have FIN := closeO (w := w) (wF := w1) (M := w.heap.size + 1 + 1) (lo := w.heap.size + 1 + 1 + 1) (o := if ga = gb then some (Co.mk 1 ga 0 []) else none) (b := ga == gb) (by by_cases hh : ga = gb <;> simp [hh]) (fun c hc => by by_cases hh : ga = gb; (rw [if_pos hh] at hc; cases hc; exact ⟨[], Co.at_mk.2 ⟨.slice none 0 0, rfl, CSl.nilA⟩, Fresh.nil _ _⟩); (rw [if_neg hh] at hc; cases hc)) (by omega) (by omega) (below_trans HB.out hB1)
  rw [← HR.out] at FIN
  simp only [put4, Nat.zero_add] at FIN
  go_wp2_with fail
  exact bodyPost_ret (v := .tuple #[.agg #[.int .i64 1, .int .i64 ga, .int .i64 0, .slice none 0 0], .bool (ga == gb)]) (by simp [results, Try.results54, go_sem, z0, z1, z2, z3]) rfl FIN
end Go.Proofs.Ytgekfnodmgkdaaa
