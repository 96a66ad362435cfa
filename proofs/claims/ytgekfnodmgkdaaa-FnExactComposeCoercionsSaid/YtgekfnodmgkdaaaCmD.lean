/- The specification's l6Compose with a failure behind a plain coercion; l6Two where kinds differ, and of two identities. -/
import Derived.Test.YtgekfnodmgkdaaaCmB
import Derived.Test.YtgekfnodmgkdaaaTgs
import Derived.Test.YtgekfnodmgkdaaaCs6
namespace Go.Proofs.Ytgekfnodmgkdaaa
open Go.RowKit

set_option maxRecDepth 100000 in
set_option maxHeartbeats 2000000 in
theorem l6Compose_bfail (n d : Nat) (ka ga gb : Int) (la lb : Int) (ts us : List Co) (va vb : Value) (fa fb : List Nat) (w : World) (h4 : ka ≠ 4) (h5 : ka ≠ 5) (h6 : ka ≠ 6) (h1 : ¬ (ka = 1 ∧ ga = 1)) (htw : tagWf d (Co.mk ka ga la ts) = true) (hnb : (Co.mk 6 gb lb us).cnt ≤ 1048576) (hata : (Co.mk ka ga la ts).At w va fa) (hatb : (Co.mk 6 gb lb us).At w vb fb) :
    Calls Try.prog 34 #[va, vb] w (MadeO w (cmpo (n + 1) (.mk ka ga la ts) (.mk 6 gb lb us))) := by
  have hata0 := hata
  have hatb0 := hatb
  obtain ⟨sa, rfl, hsa⟩ := Co.at_mk.1 hata
  obtain ⟨sb, rfl, hsb⟩ := Co.at_mk.1 hatb
  obtain ⟨aa, ca, rfl⟩ := hsa.shape
  obtain ⟨ab, cb, rfl⟩ := hsb.shape
  generalize hla : ts.length = na at *
  generalize hlb : us.length = nb at *
  have hb0 : Below w.heap.size w (((w.alloc (Obj.cells #[.int .i64 ka, .int .i64 ga, .int .i64 la, .slice aa na ca] 44)).alloc (Obj.cells #[.int .i64 6, .int .i64 gb, .int .i64 lb, .slice ab nb cb] 44)).alloc (Obj.cells #[.int .i64 0, .int .i64 0, .int .i64 0, .slice none 0 0] 44)) := (((Below.refl _ _).alloc (Nat.le_refl _) _).alloc (by simp) _).alloc (by simp; omega) _
  have hs0 : ((((w.alloc (Obj.cells #[.int .i64 ka, .int .i64 ga, .int .i64 la, .slice aa na ca] 44)).alloc (Obj.cells #[.int .i64 6, .int .i64 gb, .int .i64 lb, .slice ab nb cb] 44)).alloc (Obj.cells #[.int .i64 0, .int .i64 0, .int .i64 0, .slice none 0 0] 44))).heap.size = w.heap.size + 1 + 1 + 1 := by simp
  obtain ⟨bA, bB, bZ⟩ := three3 (Below.refl ((((w.alloc (Obj.cells #[.int .i64 ka, .int .i64 ga, .int .i64 la, .slice aa na ca] 44)).alloc (Obj.cells #[.int .i64 6, .int .i64 gb, .int .i64 lb, .slice ab nb cb] 44)).alloc (Obj.cells #[.int .i64 0, .int .i64 0, .int .i64 0, .slice none 0 0] 44))).heap.size (((w.alloc (Obj.cells #[.int .i64 ka, .int .i64 ga, .int .i64 la, .slice aa na ca] 44)).alloc (Obj.cells #[.int .i64 6, .int .i64 gb, .int .i64 lb, .slice ab nb cb] 44)).alloc (Obj.cells #[.int .i64 0, .int .i64 0, .int .i64 0, .slice none 0 0] 44)))
  have x0 : ((((w.alloc (Obj.cells #[.int .i64 ka, .int .i64 ga, .int .i64 la, .slice aa na ca] 44)).alloc (Obj.cells #[.int .i64 6, .int .i64 gb, .int .i64 lb, .slice ab nb cb] 44)).alloc (Obj.cells #[.int .i64 0, .int .i64 0, .int .i64 0, .slice none 0 0] 44))).cell? ⟨w.heap.size, 0, none⟩ = some (.int .i64 ka) := by rw [cell_of_block bA]; rfl
  have x1 : ((((w.alloc (Obj.cells #[.int .i64 ka, .int .i64 ga, .int .i64 la, .slice aa na ca] 44)).alloc (Obj.cells #[.int .i64 6, .int .i64 gb, .int .i64 lb, .slice ab nb cb] 44)).alloc (Obj.cells #[.int .i64 0, .int .i64 0, .int .i64 0, .slice none 0 0] 44))).cell? ⟨w.heap.size, 1, none⟩ = some (.int .i64 ga) := by rw [cell_of_block bA]; rfl
  have x2 : ((((w.alloc (Obj.cells #[.int .i64 ka, .int .i64 ga, .int .i64 la, .slice aa na ca] 44)).alloc (Obj.cells #[.int .i64 6, .int .i64 gb, .int .i64 lb, .slice ab nb cb] 44)).alloc (Obj.cells #[.int .i64 0, .int .i64 0, .int .i64 0, .slice none 0 0] 44))).cell? ⟨w.heap.size, 2, none⟩ = some (.int .i64 la) := by rw [cell_of_block bA]; rfl
  have x3 : ((((w.alloc (Obj.cells #[.int .i64 ka, .int .i64 ga, .int .i64 la, .slice aa na ca] 44)).alloc (Obj.cells #[.int .i64 6, .int .i64 gb, .int .i64 lb, .slice ab nb cb] 44)).alloc (Obj.cells #[.int .i64 0, .int .i64 0, .int .i64 0, .slice none 0 0] 44))).cell? ⟨w.heap.size, 3, none⟩ = some (.slice aa na ca) := by rw [cell_of_block bA]; rfl
  have y0 : ((((w.alloc (Obj.cells #[.int .i64 ka, .int .i64 ga, .int .i64 la, .slice aa na ca] 44)).alloc (Obj.cells #[.int .i64 6, .int .i64 gb, .int .i64 lb, .slice ab nb cb] 44)).alloc (Obj.cells #[.int .i64 0, .int .i64 0, .int .i64 0, .slice none 0 0] 44))).cell? ⟨w.heap.size + 1, 0, none⟩ = some (.int .i64 6) := by rw [cell_of_block bB]; rfl
  have y1 : ((((w.alloc (Obj.cells #[.int .i64 ka, .int .i64 ga, .int .i64 la, .slice aa na ca] 44)).alloc (Obj.cells #[.int .i64 6, .int .i64 gb, .int .i64 lb, .slice ab nb cb] 44)).alloc (Obj.cells #[.int .i64 0, .int .i64 0, .int .i64 0, .slice none 0 0] 44))).cell? ⟨w.heap.size + 1, 1, none⟩ = some (.int .i64 gb) := by rw [cell_of_block bB]; rfl
  have y2 : ((((w.alloc (Obj.cells #[.int .i64 ka, .int .i64 ga, .int .i64 la, .slice aa na ca] 44)).alloc (Obj.cells #[.int .i64 6, .int .i64 gb, .int .i64 lb, .slice ab nb cb] 44)).alloc (Obj.cells #[.int .i64 0, .int .i64 0, .int .i64 0, .slice none 0 0] 44))).cell? ⟨w.heap.size + 1, 2, none⟩ = some (.int .i64 lb) := by rw [cell_of_block bB]; rfl
  have y3 : ((((w.alloc (Obj.cells #[.int .i64 ka, .int .i64 ga, .int .i64 la, .slice aa na ca] 44)).alloc (Obj.cells #[.int .i64 6, .int .i64 gb, .int .i64 lb, .slice ab nb cb] 44)).alloc (Obj.cells #[.int .i64 0, .int .i64 0, .int .i64 0, .slice none 0 0] 44))).cell? ⟨w.heap.size + 1, 3, none⟩ = some (.slice ab nb cb) := by rw [cell_of_block bB]; rfl
  have HM := hid (fun (w' : World) (h : Below ((((w.alloc (Obj.cells #[.int .i64 ka, .int .i64 ga, .int .i64 la, .slice aa na ca] 44)).alloc (Obj.cells #[.int .i64 6, .int .i64 gb, .int .i64 lb, .slice ab nb cb] 44)).alloc (Obj.cells #[.int .i64 0, .int .i64 0, .int .i64 0, .slice none 0 0] 44))).heap.size (((w.alloc (Obj.cells #[.int .i64 ka, .int .i64 ga, .int .i64 la, .slice aa na ca] 44)).alloc (Obj.cells #[.int .i64 6, .int .i64 gb, .int .i64 lb, .slice ab nb cb] 44)).alloc (Obj.cells #[.int .i64 0, .int .i64 0, .int .i64 0, .slice none 0 0] 44)) w') => (h.block (w.heap.size + 1 + 1) (by omega)).trans bZ)
  have HB := hid hb0
  have HZ0 := hid hs0
  have HS0 := hid (show ∀ w', Below ((((w.alloc (Obj.cells #[.int .i64 ka, .int .i64 ga, .int .i64 la, .slice aa na ca] 44)).alloc (Obj.cells #[.int .i64 6, .int .i64 gb, .int .i64 lb, .slice ab nb cb] 44)).alloc (Obj.cells #[.int .i64 0, .int .i64 0, .int .i64 0, .slice none 0 0] 44))).heap.size (((w.alloc (Obj.cells #[.int .i64 ka, .int .i64 ga, .int .i64 la, .slice aa na ca] 44)).alloc (Obj.cells #[.int .i64 6, .int .i64 gb, .int .i64 lb, .slice ab nb cb] 44)).alloc (Obj.cells #[.int .i64 0, .int .i64 0, .int .i64 0, .slice none 0 0] 44)) w' → (fun w' => w'.cell? ⟨w.heap.size, 0, none⟩ = some (.int .i64 ka) ∧ w'.cell? ⟨w.heap.size, 1, none⟩ = some (.int .i64 ga) ∧ w'.cell? ⟨w.heap.size, 2, none⟩ = some (.int .i64 la) ∧ w'.cell? ⟨w.heap.size, 3, none⟩ = some (.slice aa na ca) ∧ w'.cell? ⟨w.heap.size + 1, 0, none⟩ = some (.int .i64 6) ∧ w'.cell? ⟨w.heap.size + 1, 1, none⟩ = some (.int .i64 gb) ∧ w'.cell? ⟨w.heap.size + 1, 2, none⟩ = some (.int .i64 lb) ∧ w'.cell? ⟨w.heap.size + 1, 3, none⟩ = some (.slice ab nb cb)) w' from fun w' h => ⟨cell_keep x0 h, cell_keep x1 h, cell_keep x2 h, cell_keep x3 h, cell_keep y0 h, cell_keep y1 h, cell_keep y2 h, cell_keep y3 h⟩)
  have HA := hid (hata0.below hb0)
  have HBB := hid (hatb0.below hb0)
  clear hb0 hs0 bA bB bZ hata hatb hata0 hatb0 hsa hsb hla hlb
  have hr : cmpo (n + 1) (.mk ka ga la ts) (.mk 6 gb lb us) = if tagC (.mk ka ga la ts) = gb then some (.mk 6 gb lb us) else none := by simp [cmpo, cmpN, h1, h4, h5, h6]
  have hne0 : w.heap.size ≠ w.heap.size + 1 + 1 := by omega
  have hne1 : w.heap.size + 1 ≠ w.heap.size + 1 + 1 := by omega
  have HR := hid hr
  have HTW := hid htw
  have HN := hid hnb
  have q4 : (ka == 4) = false := by rw [beq_eq_false_iff_ne]; exact h4
  have q5 : (ka == 5) = false := by rw [beq_eq_false_iff_ne]; exact h5
  have q6 : (ka == 6) = false := by rw [beq_eq_false_iff_ne]; exact h6
  clear hr htw hnb h4 h5 h6
  generalize htg : tagC (.mk ka ga la ts) = tg at *
  have HG := hid htg
  clear htg
  by_cases hk : ka = 1
  case pos =>
    have q1 : (ka == 1) = true := by simpa using hk
    have q2 : (ga == 1) = false := by rw [beq_eq_false_iff_ne]; exact fun h => h1 ⟨hk, h⟩
    clear hk h1
    go_enter Try.func34, Try.ntmps34
    go_wp2_with fail
    refine regionL (s := 7) (S0 := (fun w' => w'.cell? ⟨w.heap.size, 0, none⟩ = some (.int .i64 ka) ∧ w'.cell? ⟨w.heap.size, 1, none⟩ = some (.int .i64 ga) ∧ w'.cell? ⟨w.heap.size, 2, none⟩ = some (.int .i64 la) ∧ w'.cell? ⟨w.heap.size, 3, none⟩ = some (.slice aa na ca) ∧ w'.cell? ⟨w.heap.size + 1, 0, none⟩ = some (.int .i64 6) ∧ w'.cell? ⟨w.heap.size + 1, 1, none⟩ = some (.int .i64 gb) ∧ w'.cell? ⟨w.heap.size + 1, 2, none⟩ = some (.int .i64 lb) ∧ w'.cell? ⟨w.heap.size + 1, 3, none⟩ = some (.slice ab nb cb))) (S1 := (fun w' => w'.cell? ⟨w.heap.size, 0, none⟩ = some (.int .i64 ka) ∧ w'.cell? ⟨w.heap.size, 1, none⟩ = some (.int .i64 ga) ∧ w'.cell? ⟨w.heap.size, 2, none⟩ = some (.int .i64 la) ∧ w'.cell? ⟨w.heap.size, 3, none⟩ = some (.slice aa na ca) ∧ w'.cell? ⟨w.heap.size + 1, 0, none⟩ = some (.int .i64 6) ∧ w'.cell? ⟨w.heap.size + 1, 1, none⟩ = some (.int .i64 gb) ∧ w'.cell? ⟨w.heap.size + 1, 2, none⟩ = some (.int .i64 lb) ∧ w'.cell? ⟨w.heap.size + 1, 3, none⟩ = some (.slice ab nb cb))) (by kernel_rfl) (HS0.out _ (below_drew _)) ((HS0.out _ (below_drew _))) (fun hS0 => ?_)
    refine takeL0 (i := 0) (v := ?vqa1) rfl rfl (by kernel_rfl) (by kernel_rfl) (by kernel_rfl) (by decide) (by kernel_rfl) (by kernel_rfl) (fun _ _ _ h => h) (Or.inl ⟨by rfl, ?hyqa1⟩) (by assumption) ?_
    case hyqa1 => (intro w hSw; (try dsimp only at hSw); go_simp; (try with_reducible rfl))
    try simp only [Act.put, List.setIfInBounds_toArray, List.set_cons_zero, List.set_cons_succ]
    refine takeL (i := 2) (v := ?vqa2) rfl (by kernel_rfl) (by kernel_rfl) (by kernel_rfl) (by decide) (fun _ _ _ h => h) (Or.inl ⟨by rfl, ?hyqa2⟩) (by assumption) ?_
    case hyqa2 => (intro w hSw; (try dsimp only at hSw); go_simp; (try with_reducible rfl))
    try simp only [Act.put, List.setIfInBounds_toArray, List.set_cons_zero, List.set_cons_succ]
    refine takeL (i := 4) (v := ?vqa3) rfl (by kernel_rfl) (by kernel_rfl) (by kernel_rfl) (by decide) (fun _ _ _ h => h) (Or.inl ⟨by rfl, ?hyqa3⟩) (by assumption) ?_
    case hyqa3 => (intro w hSw; (try dsimp only at hSw); go_simp; (try with_reducible rfl))
    try simp only [Act.put, List.setIfInBounds_toArray, List.set_cons_zero, List.set_cons_succ]
    refine takeL (i := 5) (v := ?vqa4) rfl (by kernel_rfl) (by kernel_rfl) (by kernel_rfl) (by decide) (fun _ _ _ h => h) (Or.inl ⟨by rfl, ?hyqa4⟩) (by assumption) ?_
    case hyqa4 => (intro w hSw; (try dsimp only at hSw); go_simp; (try with_reducible rfl))
    try simp only [Act.put, List.setIfInBounds_toArray, List.set_cons_zero, List.set_cons_succ]
    refine readyL (rs := [1]) (by kernel_rfl) (by simp) ?_
    refine AllReadyL.cons rfl (fun K hK => ?_) AllReadyL.nil
    go_simp
    refine (l6Copy_any _ _ _ _ (HBB.out.below (below_drew _)) HN.out).mono ?_
    rintro e w1 ⟨v1, f1, rfl, hat1, hf1, hb1⟩
    obtain ⟨p0, p1, p2, pn, pa, pc, rfl⟩ := hat1.agg
    have hB1 := below_trans (below_drew ((((w.alloc (Obj.cells #[.int .i64 ka, .int .i64 ga, .int .i64 la, .slice aa na ca] 44)).alloc (Obj.cells #[.int .i64 6, .int .i64 gb, .int .i64 lb, .slice ab nb cb] 44)).alloc (Obj.cells #[.int .i64 0, .int .i64 0, .int .i64 0, .slice none 0 0] 44)))) hb1
    refine hK.out _ _ ?_ (fun hS1 => ?_)
    · exact ⟨(HS0.out _ hB1), fun _ => HS0.out _ hB1⟩
    clear hK K hS0
    try simp only [Act.put, List.setIfInBounds_toArray, List.set_cons_zero, List.set_cons_succ]
    refine readyL (rs := [3]) (by kernel_rfl) (by simp) ?_
    refine AllReadyL.cons rfl (fun K hK => ?_) AllReadyL.nil
    go_simp
    refine (tag_any d _ _ _ _ HTW.out (HA.out.below hB1)).mono ?_
    rw [HG.out]
    rintro e w2 ⟨rfl, hb2⟩
    have hB2 := below_trans hB1 hb2
    refine hK.out _ _ ?_ (fun hS2 => ?_)
    · exact ⟨(HS0.out _ hB2), fun _ => HS0.out _ hB2⟩
    clear hK K hS1
    try simp only [Act.put, List.setIfInBounds_toArray, List.set_cons_zero, List.set_cons_succ]
    refine takeL (i := 6) (v := ?vqa5) rfl (by kernel_rfl) (by kernel_rfl) (by kernel_rfl) (by decide) (fun _ _ _ h => h) (Or.inl ⟨by rfl, ?hyqa5⟩) (by assumption) ?_
    case hyqa5 => (intro w hSw; (try dsimp only at hSw); go_simp; (try with_reducible rfl))
    try simp only [Act.put, List.setIfInBounds_toArray, List.set_cons_zero, List.set_cons_succ]
    refine readyL (rs := [7]) (by kernel_rfl) (by simp) ?_
    refine AllReadyL.cons rfl (fun K hK => ?_) AllReadyL.nil
    have bM := HM.out _ hB2
    have z0 := (cell_of_block (o := 0) bM).trans (show _ = some (.int .i64 0) from rfl)
    have z1 := (cell_of_block (o := 1) bM).trans (show _ = some (.int .i64 0) from rfl)
    have z2 := (cell_of_block (o := 2) bM).trans (show _ = some (.int .i64 0) from rfl)
    have z3 := (cell_of_block (o := 3) bM).trans (show _ = some (.slice none 0 0) from rfl)
    have yz := fun o => frozen_of_block (o := o) bM
    go_simp
    refine hK.out _ _ ?_ (fun hS3 => ?_)
    · exact ⟨⟨(by rw [cell_setCell_ne, cell_setCell_ne, cell_setCell_ne, cell_setCell_ne]; exact (HS0.out _ hB2).1; all_goals exact hne0), (by rw [cell_setCell_ne, cell_setCell_ne, cell_setCell_ne, cell_setCell_ne]; exact (HS0.out _ hB2).2.1; all_goals exact hne0), (by rw [cell_setCell_ne, cell_setCell_ne, cell_setCell_ne, cell_setCell_ne]; exact (HS0.out _ hB2).2.2.1; all_goals exact hne0), (by rw [cell_setCell_ne, cell_setCell_ne, cell_setCell_ne, cell_setCell_ne]; exact (HS0.out _ hB2).2.2.2.1; all_goals exact hne0), (by rw [cell_setCell_ne, cell_setCell_ne, cell_setCell_ne, cell_setCell_ne]; exact (HS0.out _ hB2).2.2.2.2.1; all_goals exact hne1), (by rw [cell_setCell_ne, cell_setCell_ne, cell_setCell_ne, cell_setCell_ne]; exact (HS0.out _ hB2).2.2.2.2.2.1; all_goals exact hne1), (by rw [cell_setCell_ne, cell_setCell_ne, cell_setCell_ne, cell_setCell_ne]; exact (HS0.out _ hB2).2.2.2.2.2.2.1; all_goals exact hne1), (by rw [cell_setCell_ne, cell_setCell_ne, cell_setCell_ne, cell_setCell_ne]; exact (HS0.out _ hB2).2.2.2.2.2.2.2; all_goals exact hne1)⟩, fun h => absurd (h.symm.trans (show _ = true by kernel_rfl)) (by decide)⟩
    clear hK K hS2
    try simp only [Act.put, List.setIfInBounds_toArray, List.set_cons_zero, List.set_cons_succ]
    refine readyL (rs := [8]) (by kernel_rfl) (by simp) ?_
    refine AllReadyL.cons rfl (fun K hK => ?_) AllReadyL.nil
    go_simp
    refine hK.out _ _ ?_ (fun hS4 => ?_)
    · exact ⟨⟨(by rw [cell_setCell_ne, cell_setCell_ne, cell_setCell_ne, cell_setCell_ne]; exact (HS0.out _ hB2).1; all_goals exact hne0), (by rw [cell_setCell_ne, cell_setCell_ne, cell_setCell_ne, cell_setCell_ne]; exact (HS0.out _ hB2).2.1; all_goals exact hne0), (by rw [cell_setCell_ne, cell_setCell_ne, cell_setCell_ne, cell_setCell_ne]; exact (HS0.out _ hB2).2.2.1; all_goals exact hne0), (by rw [cell_setCell_ne, cell_setCell_ne, cell_setCell_ne, cell_setCell_ne]; exact (HS0.out _ hB2).2.2.2.1; all_goals exact hne0), (by rw [cell_setCell_ne, cell_setCell_ne, cell_setCell_ne, cell_setCell_ne]; exact (HS0.out _ hB2).2.2.2.2.1; all_goals exact hne1), (by rw [cell_setCell_ne, cell_setCell_ne, cell_setCell_ne, cell_setCell_ne]; exact (HS0.out _ hB2).2.2.2.2.2.1; all_goals exact hne1), (by rw [cell_setCell_ne, cell_setCell_ne, cell_setCell_ne, cell_setCell_ne]; exact (HS0.out _ hB2).2.2.2.2.2.2.1; all_goals exact hne1), (by rw [cell_setCell_ne, cell_setCell_ne, cell_setCell_ne, cell_setCell_ne]; exact (HS0.out _ hB2).2.2.2.2.2.2.2; all_goals exact hne1)⟩, fun h => absurd (h.symm.trans (show _ = true by kernel_rfl)) (by decide)⟩
    clear hK K hS3
    try simp only [Act.put, List.setIfInBounds_toArray, List.set_cons_zero, List.set_cons_succ]
    refine doneL (by kernel_rfl) ?_ _
    have FIN := closeO (w := w) (wF := w2) (M := w.heap.size + 1 + 1) (lo := w.heap.size + 1 + 1 + 1) (o := if tg = gb then some (.mk 6 gb lb us) else none) (b := tg == gb) (by by_cases hh : tg = gb <;> simp [hh]) (fun c hc => by by_cases hh : tg = gb; (rw [if_pos hh] at hc; cases hc; exact ⟨f1, hat1.below hb2, (hf1.below hb2).mono (by have := HZ0.out; have h8 := (below_drew ((((w.alloc (Obj.cells #[.int .i64 ka, .int .i64 ga, .int .i64 la, .slice aa na ca] 44)).alloc (Obj.cells #[.int .i64 6, .int .i64 gb, .int .i64 lb, .slice ab nb cb] 44)).alloc (Obj.cells #[.int .i64 0, .int .i64 0, .int .i64 0, .slice none 0 0] 44)))).size; omega)⟩); (rw [if_neg hh] at hc; cases hc)) (by omega) (by omega) (below_trans HB.out hB2)
    rw [← HR.out] at FIN
    simp only [put4, Nat.zero_add] at FIN
    go_wp2_with fail
    exact bodyPost_ret (v := .tuple #[.agg #[.int .i64 p0, .int .i64 p1, .int .i64 p2, .slice pa pn pc], .bool (tg == gb)]) (by simp [results, Try.results34, go_sem, z0, z1, z2, z3]) rfl FIN
  have q1 : (ka == 1) = false := by rw [beq_eq_false_iff_ne]; exact hk
  clear hk h1
  go_enter Try.func34, Try.ntmps34
  go_wp2_with fail
  refine regionL (s := 7) (S0 := (fun w' => w'.cell? ⟨w.heap.size, 0, none⟩ = some (.int .i64 ka) ∧ w'.cell? ⟨w.heap.size, 1, none⟩ = some (.int .i64 ga) ∧ w'.cell? ⟨w.heap.size, 2, none⟩ = some (.int .i64 la) ∧ w'.cell? ⟨w.heap.size, 3, none⟩ = some (.slice aa na ca) ∧ w'.cell? ⟨w.heap.size + 1, 0, none⟩ = some (.int .i64 6) ∧ w'.cell? ⟨w.heap.size + 1, 1, none⟩ = some (.int .i64 gb) ∧ w'.cell? ⟨w.heap.size + 1, 2, none⟩ = some (.int .i64 lb) ∧ w'.cell? ⟨w.heap.size + 1, 3, none⟩ = some (.slice ab nb cb))) (S1 := (fun w' => w'.cell? ⟨w.heap.size, 0, none⟩ = some (.int .i64 ka) ∧ w'.cell? ⟨w.heap.size, 1, none⟩ = some (.int .i64 ga) ∧ w'.cell? ⟨w.heap.size, 2, none⟩ = some (.int .i64 la) ∧ w'.cell? ⟨w.heap.size, 3, none⟩ = some (.slice aa na ca) ∧ w'.cell? ⟨w.heap.size + 1, 0, none⟩ = some (.int .i64 6) ∧ w'.cell? ⟨w.heap.size + 1, 1, none⟩ = some (.int .i64 gb) ∧ w'.cell? ⟨w.heap.size + 1, 2, none⟩ = some (.int .i64 lb) ∧ w'.cell? ⟨w.heap.size + 1, 3, none⟩ = some (.slice ab nb cb))) (by kernel_rfl) (HS0.out _ (below_drew _)) ((HS0.out _ (below_drew _))) (fun hS0 => ?_)
  refine takeL0 (i := 0) (v := ?vqb1) rfl rfl (by kernel_rfl) (by kernel_rfl) (by kernel_rfl) (by decide) (by kernel_rfl) (by kernel_rfl) (fun _ _ _ h => h) (Or.inl ⟨by rfl, ?hyqb1⟩) (by assumption) ?_
  case hyqb1 => (intro w hSw; (try dsimp only at hSw); go_simp; (try with_reducible rfl))
  try simp only [Act.put, List.setIfInBounds_toArray, List.set_cons_zero, List.set_cons_succ]
  refine takeL (i := 2) (v := ?vqb2) rfl (by kernel_rfl) (by kernel_rfl) (by kernel_rfl) (by decide) (fun _ _ _ h => h) (Or.inl ⟨by rfl, ?hyqb2⟩) (by assumption) ?_
  case hyqb2 => (intro w hSw; (try dsimp only at hSw); go_simp; (try with_reducible rfl))
  try simp only [Act.put, List.setIfInBounds_toArray, List.set_cons_zero, List.set_cons_succ]
  refine takeL (i := 4) (v := ?vqb3) rfl (by kernel_rfl) (by kernel_rfl) (by kernel_rfl) (by decide) (fun _ _ _ h => h) (Or.inl ⟨by rfl, ?hyqb3⟩) (by assumption) ?_
  case hyqb3 => (intro w hSw; (try dsimp only at hSw); go_simp; (try with_reducible rfl))
  try simp only [Act.put, List.setIfInBounds_toArray, List.set_cons_zero, List.set_cons_succ]
  refine takeL (i := 5) (v := ?vqb4) rfl (by kernel_rfl) (by kernel_rfl) (by kernel_rfl) (by decide) (fun _ _ _ h => h) (Or.inl ⟨by rfl, ?hyqb4⟩) (by assumption) ?_
  case hyqb4 => (intro w hSw; (try dsimp only at hSw); go_simp; (try with_reducible rfl))
  try simp only [Act.put, List.setIfInBounds_toArray, List.set_cons_zero, List.set_cons_succ]
  refine readyL (rs := [1]) (by kernel_rfl) (by simp) ?_
  refine AllReadyL.cons rfl (fun K hK => ?_) AllReadyL.nil
  go_simp
  refine (l6Copy_any _ _ _ _ (HBB.out.below (below_drew _)) HN.out).mono ?_
  rintro e w1 ⟨v1, f1, rfl, hat1, hf1, hb1⟩
  obtain ⟨p0, p1, p2, pn, pa, pc, rfl⟩ := hat1.agg
  have hB1 := below_trans (below_drew ((((w.alloc (Obj.cells #[.int .i64 ka, .int .i64 ga, .int .i64 la, .slice aa na ca] 44)).alloc (Obj.cells #[.int .i64 6, .int .i64 gb, .int .i64 lb, .slice ab nb cb] 44)).alloc (Obj.cells #[.int .i64 0, .int .i64 0, .int .i64 0, .slice none 0 0] 44)))) hb1
  refine hK.out _ _ ?_ (fun hS1 => ?_)
  · exact ⟨(HS0.out _ hB1), fun _ => HS0.out _ hB1⟩
  clear hK K hS0
  try simp only [Act.put, List.setIfInBounds_toArray, List.set_cons_zero, List.set_cons_succ]
  refine readyL (rs := [3]) (by kernel_rfl) (by simp) ?_
  refine AllReadyL.cons rfl (fun K hK => ?_) AllReadyL.nil
  go_simp
  refine (tag_any d _ _ _ _ HTW.out (HA.out.below hB1)).mono ?_
  rw [HG.out]
  rintro e w2 ⟨rfl, hb2⟩
  have hB2 := below_trans hB1 hb2
  refine hK.out _ _ ?_ (fun hS2 => ?_)
  · exact ⟨(HS0.out _ hB2), fun _ => HS0.out _ hB2⟩
  clear hK K hS1
  try simp only [Act.put, List.setIfInBounds_toArray, List.set_cons_zero, List.set_cons_succ]
  refine takeL (i := 6) (v := ?vqb5) rfl (by kernel_rfl) (by kernel_rfl) (by kernel_rfl) (by decide) (fun _ _ _ h => h) (Or.inl ⟨by rfl, ?hyqb5⟩) (by assumption) ?_
  case hyqb5 => (intro w hSw; (try dsimp only at hSw); go_simp; (try with_reducible rfl))
  try simp only [Act.put, List.setIfInBounds_toArray, List.set_cons_zero, List.set_cons_succ]
  refine readyL (rs := [7]) (by kernel_rfl) (by simp) ?_
  refine AllReadyL.cons rfl (fun K hK => ?_) AllReadyL.nil
  have bM := HM.out _ hB2
  have z0 := (cell_of_block (o := 0) bM).trans (show _ = some (.int .i64 0) from rfl)
  have z1 := (cell_of_block (o := 1) bM).trans (show _ = some (.int .i64 0) from rfl)
  have z2 := (cell_of_block (o := 2) bM).trans (show _ = some (.int .i64 0) from rfl)
  have z3 := (cell_of_block (o := 3) bM).trans (show _ = some (.slice none 0 0) from rfl)
  have yz := fun o => frozen_of_block (o := o) bM
  go_simp
  refine hK.out _ _ ?_ (fun hS3 => ?_)
  · exact ⟨⟨(by rw [cell_setCell_ne, cell_setCell_ne, cell_setCell_ne, cell_setCell_ne]; exact (HS0.out _ hB2).1; all_goals exact hne0), (by rw [cell_setCell_ne, cell_setCell_ne, cell_setCell_ne, cell_setCell_ne]; exact (HS0.out _ hB2).2.1; all_goals exact hne0), (by rw [cell_setCell_ne, cell_setCell_ne, cell_setCell_ne, cell_setCell_ne]; exact (HS0.out _ hB2).2.2.1; all_goals exact hne0), (by rw [cell_setCell_ne, cell_setCell_ne, cell_setCell_ne, cell_setCell_ne]; exact (HS0.out _ hB2).2.2.2.1; all_goals exact hne0), (by rw [cell_setCell_ne, cell_setCell_ne, cell_setCell_ne, cell_setCell_ne]; exact (HS0.out _ hB2).2.2.2.2.1; all_goals exact hne1), (by rw [cell_setCell_ne, cell_setCell_ne, cell_setCell_ne, cell_setCell_ne]; exact (HS0.out _ hB2).2.2.2.2.2.1; all_goals exact hne1), (by rw [cell_setCell_ne, cell_setCell_ne, cell_setCell_ne, cell_setCell_ne]; exact (HS0.out _ hB2).2.2.2.2.2.2.1; all_goals exact hne1), (by rw [cell_setCell_ne, cell_setCell_ne, cell_setCell_ne, cell_setCell_ne]; exact (HS0.out _ hB2).2.2.2.2.2.2.2; all_goals exact hne1)⟩, fun h => absurd (h.symm.trans (show _ = true by kernel_rfl)) (by decide)⟩
  clear hK K hS2
  try simp only [Act.put, List.setIfInBounds_toArray, List.set_cons_zero, List.set_cons_succ]
  refine readyL (rs := [8]) (by kernel_rfl) (by simp) ?_
  refine AllReadyL.cons rfl (fun K hK => ?_) AllReadyL.nil
  go_simp
  refine hK.out _ _ ?_ (fun hS4 => ?_)
  · exact ⟨⟨(by rw [cell_setCell_ne, cell_setCell_ne, cell_setCell_ne, cell_setCell_ne]; exact (HS0.out _ hB2).1; all_goals exact hne0), (by rw [cell_setCell_ne, cell_setCell_ne, cell_setCell_ne, cell_setCell_ne]; exact (HS0.out _ hB2).2.1; all_goals exact hne0), (by rw [cell_setCell_ne, cell_setCell_ne, cell_setCell_ne, cell_setCell_ne]; exact (HS0.out _ hB2).2.2.1; all_goals exact hne0), (by rw [cell_setCell_ne, cell_setCell_ne, cell_setCell_ne, cell_setCell_ne]; exact (HS0.out _ hB2).2.2.2.1; all_goals exact hne0), (by rw [cell_setCell_ne, cell_setCell_ne, cell_setCell_ne, cell_setCell_ne]; exact (HS0.out _ hB2).2.2.2.2.1; all_goals exact hne1), (by rw [cell_setCell_ne, cell_setCell_ne, cell_setCell_ne, cell_setCell_ne]; exact (HS0.out _ hB2).2.2.2.2.2.1; all_goals exact hne1), (by rw [cell_setCell_ne, cell_setCell_ne, cell_setCell_ne, cell_setCell_ne]; exact (HS0.out _ hB2).2.2.2.2.2.2.1; all_goals exact hne1), (by rw [cell_setCell_ne, cell_setCell_ne, cell_setCell_ne, cell_setCell_ne]; exact (HS0.out _ hB2).2.2.2.2.2.2.2; all_goals exact hne1)⟩, fun h => absurd (h.symm.trans (show _ = true by kernel_rfl)) (by decide)⟩
  clear hK K hS3
  try simp only [Act.put, List.setIfInBounds_toArray, List.set_cons_zero, List.set_cons_succ]
  refine doneL (by kernel_rfl) ?_ _
  have FIN := closeO (w := w) (wF := w2) (M := w.heap.size + 1 + 1) (lo := w.heap.size + 1 + 1 + 1) (o := if tg = gb then some (.mk 6 gb lb us) else none) (b := tg == gb) (by by_cases hh : tg = gb <;> simp [hh]) (fun c hc => by by_cases hh : tg = gb; (rw [if_pos hh] at hc; cases hc; exact ⟨f1, hat1.below hb2, (hf1.below hb2).mono (by have := HZ0.out; have h8 := (below_drew ((((w.alloc (Obj.cells #[.int .i64 ka, .int .i64 ga, .int .i64 la, .slice aa na ca] 44)).alloc (Obj.cells #[.int .i64 6, .int .i64 gb, .int .i64 lb, .slice ab nb cb] 44)).alloc (Obj.cells #[.int .i64 0, .int .i64 0, .int .i64 0, .slice none 0 0] 44)))).size; omega)⟩); (rw [if_neg hh] at hc; cases hc)) (by omega) (by omega) (below_trans HB.out hB2)
  rw [← HR.out] at FIN
  simp only [put4, Nat.zero_add] at FIN
  go_wp2_with fail
  exact bodyPost_ret (v := .tuple #[.agg #[.int .i64 p0, .int .i64 p1, .int .i64 p2, .slice pa pn pc], .bool (tg == gb)]) (by simp [results, Try.results34, go_sem, z0, z1, z2, z3]) rfl FIN

set_option maxRecDepth 100000 in
set_option maxHeartbeats 2000000 in
theorem l6Two_diff (ka ga kb gb : Int) (la lb : Int) (ts us : List Co) (va vb : Value) (fa fb : List Nat) (w : World) (hne : ka ≠ kb) (o : Option Co) (ho : o = none) (hata : (Co.mk ka ga la ts).At w va fa) (hatb : (Co.mk kb gb lb us).At w vb fb) :
    Calls Try.prog 54 #[va, vb] w (MadeO w (o)) := by
  have hata0 := hata
  have hatb0 := hatb
  obtain ⟨sa, rfl, hsa⟩ := Co.at_mk.1 hata
  obtain ⟨sb, rfl, hsb⟩ := Co.at_mk.1 hatb
  obtain ⟨aa, ca, rfl⟩ := hsa.shape
  obtain ⟨ab, cb, rfl⟩ := hsb.shape
  generalize hla : ts.length = na at *
  generalize hlb : us.length = nb at *
  have hb0 : Below w.heap.size w (((w.alloc (Obj.cells #[.int .i64 ka, .int .i64 ga, .int .i64 la, .slice aa na ca] 44)).alloc (Obj.cells #[.int .i64 kb, .int .i64 gb, .int .i64 lb, .slice ab nb cb] 44)).alloc (Obj.cells #[.int .i64 0, .int .i64 0, .int .i64 0, .slice none 0 0] 44)) := (((Below.refl _ _).alloc (Nat.le_refl _) _).alloc (by simp) _).alloc (by simp; omega) _
  have hs0 : ((((w.alloc (Obj.cells #[.int .i64 ka, .int .i64 ga, .int .i64 la, .slice aa na ca] 44)).alloc (Obj.cells #[.int .i64 kb, .int .i64 gb, .int .i64 lb, .slice ab nb cb] 44)).alloc (Obj.cells #[.int .i64 0, .int .i64 0, .int .i64 0, .slice none 0 0] 44))).heap.size = w.heap.size + 1 + 1 + 1 := by simp
  obtain ⟨bA, bB, bZ⟩ := three3 (Below.refl ((((w.alloc (Obj.cells #[.int .i64 ka, .int .i64 ga, .int .i64 la, .slice aa na ca] 44)).alloc (Obj.cells #[.int .i64 kb, .int .i64 gb, .int .i64 lb, .slice ab nb cb] 44)).alloc (Obj.cells #[.int .i64 0, .int .i64 0, .int .i64 0, .slice none 0 0] 44))).heap.size (((w.alloc (Obj.cells #[.int .i64 ka, .int .i64 ga, .int .i64 la, .slice aa na ca] 44)).alloc (Obj.cells #[.int .i64 kb, .int .i64 gb, .int .i64 lb, .slice ab nb cb] 44)).alloc (Obj.cells #[.int .i64 0, .int .i64 0, .int .i64 0, .slice none 0 0] 44)))
  have x0 : ((((w.alloc (Obj.cells #[.int .i64 ka, .int .i64 ga, .int .i64 la, .slice aa na ca] 44)).alloc (Obj.cells #[.int .i64 kb, .int .i64 gb, .int .i64 lb, .slice ab nb cb] 44)).alloc (Obj.cells #[.int .i64 0, .int .i64 0, .int .i64 0, .slice none 0 0] 44))).cell? ⟨w.heap.size, 0, none⟩ = some (.int .i64 ka) := by rw [cell_of_block bA]; rfl
  have x1 : ((((w.alloc (Obj.cells #[.int .i64 ka, .int .i64 ga, .int .i64 la, .slice aa na ca] 44)).alloc (Obj.cells #[.int .i64 kb, .int .i64 gb, .int .i64 lb, .slice ab nb cb] 44)).alloc (Obj.cells #[.int .i64 0, .int .i64 0, .int .i64 0, .slice none 0 0] 44))).cell? ⟨w.heap.size, 1, none⟩ = some (.int .i64 ga) := by rw [cell_of_block bA]; rfl
  have x2 : ((((w.alloc (Obj.cells #[.int .i64 ka, .int .i64 ga, .int .i64 la, .slice aa na ca] 44)).alloc (Obj.cells #[.int .i64 kb, .int .i64 gb, .int .i64 lb, .slice ab nb cb] 44)).alloc (Obj.cells #[.int .i64 0, .int .i64 0, .int .i64 0, .slice none 0 0] 44))).cell? ⟨w.heap.size, 2, none⟩ = some (.int .i64 la) := by rw [cell_of_block bA]; rfl
  have x3 : ((((w.alloc (Obj.cells #[.int .i64 ka, .int .i64 ga, .int .i64 la, .slice aa na ca] 44)).alloc (Obj.cells #[.int .i64 kb, .int .i64 gb, .int .i64 lb, .slice ab nb cb] 44)).alloc (Obj.cells #[.int .i64 0, .int .i64 0, .int .i64 0, .slice none 0 0] 44))).cell? ⟨w.heap.size, 3, none⟩ = some (.slice aa na ca) := by rw [cell_of_block bA]; rfl
  have y0 : ((((w.alloc (Obj.cells #[.int .i64 ka, .int .i64 ga, .int .i64 la, .slice aa na ca] 44)).alloc (Obj.cells #[.int .i64 kb, .int .i64 gb, .int .i64 lb, .slice ab nb cb] 44)).alloc (Obj.cells #[.int .i64 0, .int .i64 0, .int .i64 0, .slice none 0 0] 44))).cell? ⟨w.heap.size + 1, 0, none⟩ = some (.int .i64 kb) := by rw [cell_of_block bB]; rfl
  have y1 : ((((w.alloc (Obj.cells #[.int .i64 ka, .int .i64 ga, .int .i64 la, .slice aa na ca] 44)).alloc (Obj.cells #[.int .i64 kb, .int .i64 gb, .int .i64 lb, .slice ab nb cb] 44)).alloc (Obj.cells #[.int .i64 0, .int .i64 0, .int .i64 0, .slice none 0 0] 44))).cell? ⟨w.heap.size + 1, 1, none⟩ = some (.int .i64 gb) := by rw [cell_of_block bB]; rfl
  have y2 : ((((w.alloc (Obj.cells #[.int .i64 ka, .int .i64 ga, .int .i64 la, .slice aa na ca] 44)).alloc (Obj.cells #[.int .i64 kb, .int .i64 gb, .int .i64 lb, .slice ab nb cb] 44)).alloc (Obj.cells #[.int .i64 0, .int .i64 0, .int .i64 0, .slice none 0 0] 44))).cell? ⟨w.heap.size + 1, 2, none⟩ = some (.int .i64 lb) := by rw [cell_of_block bB]; rfl
  have y3 : ((((w.alloc (Obj.cells #[.int .i64 ka, .int .i64 ga, .int .i64 la, .slice aa na ca] 44)).alloc (Obj.cells #[.int .i64 kb, .int .i64 gb, .int .i64 lb, .slice ab nb cb] 44)).alloc (Obj.cells #[.int .i64 0, .int .i64 0, .int .i64 0, .slice none 0 0] 44))).cell? ⟨w.heap.size + 1, 3, none⟩ = some (.slice ab nb cb) := by rw [cell_of_block bB]; rfl
  have HM := hid (fun (w' : World) (h : Below ((((w.alloc (Obj.cells #[.int .i64 ka, .int .i64 ga, .int .i64 la, .slice aa na ca] 44)).alloc (Obj.cells #[.int .i64 kb, .int .i64 gb, .int .i64 lb, .slice ab nb cb] 44)).alloc (Obj.cells #[.int .i64 0, .int .i64 0, .int .i64 0, .slice none 0 0] 44))).heap.size (((w.alloc (Obj.cells #[.int .i64 ka, .int .i64 ga, .int .i64 la, .slice aa na ca] 44)).alloc (Obj.cells #[.int .i64 kb, .int .i64 gb, .int .i64 lb, .slice ab nb cb] 44)).alloc (Obj.cells #[.int .i64 0, .int .i64 0, .int .i64 0, .slice none 0 0] 44)) w') => (h.block (w.heap.size + 1 + 1) (by omega)).trans bZ)
  have HB := hid hb0
  have HZ0 := hid hs0
  have HS0 := hid (show ∀ w', Below ((((w.alloc (Obj.cells #[.int .i64 ka, .int .i64 ga, .int .i64 la, .slice aa na ca] 44)).alloc (Obj.cells #[.int .i64 kb, .int .i64 gb, .int .i64 lb, .slice ab nb cb] 44)).alloc (Obj.cells #[.int .i64 0, .int .i64 0, .int .i64 0, .slice none 0 0] 44))).heap.size (((w.alloc (Obj.cells #[.int .i64 ka, .int .i64 ga, .int .i64 la, .slice aa na ca] 44)).alloc (Obj.cells #[.int .i64 kb, .int .i64 gb, .int .i64 lb, .slice ab nb cb] 44)).alloc (Obj.cells #[.int .i64 0, .int .i64 0, .int .i64 0, .slice none 0 0] 44)) w' → (fun w' => w'.cell? ⟨w.heap.size, 0, none⟩ = some (.int .i64 ka) ∧ w'.cell? ⟨w.heap.size, 1, none⟩ = some (.int .i64 ga) ∧ w'.cell? ⟨w.heap.size, 2, none⟩ = some (.int .i64 la) ∧ w'.cell? ⟨w.heap.size, 3, none⟩ = some (.slice aa na ca) ∧ w'.cell? ⟨w.heap.size + 1, 0, none⟩ = some (.int .i64 kb) ∧ w'.cell? ⟨w.heap.size + 1, 1, none⟩ = some (.int .i64 gb) ∧ w'.cell? ⟨w.heap.size + 1, 2, none⟩ = some (.int .i64 lb) ∧ w'.cell? ⟨w.heap.size + 1, 3, none⟩ = some (.slice ab nb cb)) w' from fun w' h => ⟨cell_keep x0 h, cell_keep x1 h, cell_keep x2 h, cell_keep x3 h, cell_keep y0 h, cell_keep y1 h, cell_keep y2 h, cell_keep y3 h⟩)
  have HA := hid (hata0.below hb0)
  have HBB := hid (hatb0.below hb0)
  clear hb0 hs0 bA bB bZ hata hatb hata0 hatb0 hsa hsb hla hlb
  subst ho
  have q1 : (ka == kb) = false := by rw [beq_eq_false_iff_ne]; exact hne
  have q2 : (ka != kb) = true := by simp [bne, q1]
  clear hne HM HS0 HA HBB HZ0
  go_enter Try.func54, Try.ntmps54
  go_wp2_with fail
  exact bodyPost_ret (v := .tuple #[.agg #[.int .i64 0, .int .i64 0, .int .i64 0, .slice none 0 0], .bool false]) (by simp [results, Try.results54, go_sem]) rfl ⟨0, 0, 0, none, 0, 0, rfl, HB.out, fun c h => by cases h⟩

end Go.Proofs.Ytgekfnodmgkdaaa
