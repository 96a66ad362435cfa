/- The program's compose, case by case. -/
import Derived.Test.YtolhfcpmhhhjpaaSG7
import Derived.Test.YtolhfcpmhhhjpaaSG1
namespace Go.Proofs.Ytolhfcpmhhhjpaa
open Go.RowKit


set_option maxRecDepth 100000 in
set_option maxHeartbeats 4000000 in
theorem compose_unk (kb gb la lb : Int) (ts us : List Co) (o : Option Co) (va vb : Value) (fa fb : List Nat) (w : World) (ho : o = if kb = 5 ∨ kb = 1 ∧ gb = 1 then some (.mk kb gb lb us) else none) (hata : (Co.mk 1 1 la ts).At w va fa) (hatb : (Co.mk kb gb lb us).At w vb fb) :
    Calls Try.prog 59 #[va, vb] w (MadeL w (fa ++ fb) (o)) := by
  have HA := hid (show ∀ x ∈ fa ++ fb, x < w.heap.size from fun x hx => (List.mem_append.1 hx).elim (hata.lt x) (hatb.lt x))
  have hata0 := hata
  have hatb0 := hatb
  obtain ⟨sa, rfl, hsa⟩ := Co.at_mk.1 hata
  obtain ⟨sb, rfl, hsb⟩ := Co.at_mk.1 hatb
  obtain ⟨aa, ca, rfl⟩ := hsa.shape
  generalize hlna : ts.length = na at *
  obtain ⟨ab, cb, rfl⟩ := hsb.shape
  generalize hlnb : us.length = nb at *
  have hb0 : Below w.heap.size w (((w.alloc (Obj.cells #[.int .i64 1, .int .i64 1, .int .i64 la, .slice aa na ca] 30)).alloc (Obj.cells #[.int .i64 kb, .int .i64 gb, .int .i64 lb, .slice ab nb cb] 30)).alloc (Obj.cells #[.int .i64 0, .int .i64 0, .int .i64 0, .slice none 0 0] 30)) := (((Below.refl _ _).alloc (Nat.le_refl _) _).alloc (by simp) _).alloc (by simp; omega) _
  have hs0 : ((((w.alloc (Obj.cells #[.int .i64 1, .int .i64 1, .int .i64 la, .slice aa na ca] 30)).alloc (Obj.cells #[.int .i64 kb, .int .i64 gb, .int .i64 lb, .slice ab nb cb] 30)).alloc (Obj.cells #[.int .i64 0, .int .i64 0, .int .i64 0, .slice none 0 0] 30))).heap.size = w.heap.size + 1 + 1 + 1 := by simp
  obtain ⟨bA, bB, bZ⟩ := three3 (Below.refl ((((w.alloc (Obj.cells #[.int .i64 1, .int .i64 1, .int .i64 la, .slice aa na ca] 30)).alloc (Obj.cells #[.int .i64 kb, .int .i64 gb, .int .i64 lb, .slice ab nb cb] 30)).alloc (Obj.cells #[.int .i64 0, .int .i64 0, .int .i64 0, .slice none 0 0] 30))).heap.size (((w.alloc (Obj.cells #[.int .i64 1, .int .i64 1, .int .i64 la, .slice aa na ca] 30)).alloc (Obj.cells #[.int .i64 kb, .int .i64 gb, .int .i64 lb, .slice ab nb cb] 30)).alloc (Obj.cells #[.int .i64 0, .int .i64 0, .int .i64 0, .slice none 0 0] 30)))
  have x0 : ((((w.alloc (Obj.cells #[.int .i64 1, .int .i64 1, .int .i64 la, .slice aa na ca] 30)).alloc (Obj.cells #[.int .i64 kb, .int .i64 gb, .int .i64 lb, .slice ab nb cb] 30)).alloc (Obj.cells #[.int .i64 0, .int .i64 0, .int .i64 0, .slice none 0 0] 30))).cell? ⟨w.heap.size, 0, none⟩ = some (.int .i64 1) := by rw [cell_of_block bA]; rfl
  have x1 : ((((w.alloc (Obj.cells #[.int .i64 1, .int .i64 1, .int .i64 la, .slice aa na ca] 30)).alloc (Obj.cells #[.int .i64 kb, .int .i64 gb, .int .i64 lb, .slice ab nb cb] 30)).alloc (Obj.cells #[.int .i64 0, .int .i64 0, .int .i64 0, .slice none 0 0] 30))).cell? ⟨w.heap.size, 1, none⟩ = some (.int .i64 1) := by rw [cell_of_block bA]; rfl
  have x2 : ((((w.alloc (Obj.cells #[.int .i64 1, .int .i64 1, .int .i64 la, .slice aa na ca] 30)).alloc (Obj.cells #[.int .i64 kb, .int .i64 gb, .int .i64 lb, .slice ab nb cb] 30)).alloc (Obj.cells #[.int .i64 0, .int .i64 0, .int .i64 0, .slice none 0 0] 30))).cell? ⟨w.heap.size, 2, none⟩ = some (.int .i64 la) := by rw [cell_of_block bA]; rfl
  have x3 : ((((w.alloc (Obj.cells #[.int .i64 1, .int .i64 1, .int .i64 la, .slice aa na ca] 30)).alloc (Obj.cells #[.int .i64 kb, .int .i64 gb, .int .i64 lb, .slice ab nb cb] 30)).alloc (Obj.cells #[.int .i64 0, .int .i64 0, .int .i64 0, .slice none 0 0] 30))).cell? ⟨w.heap.size, 3, none⟩ = some (.slice aa na ca) := by rw [cell_of_block bA]; rfl
  have y0 : ((((w.alloc (Obj.cells #[.int .i64 1, .int .i64 1, .int .i64 la, .slice aa na ca] 30)).alloc (Obj.cells #[.int .i64 kb, .int .i64 gb, .int .i64 lb, .slice ab nb cb] 30)).alloc (Obj.cells #[.int .i64 0, .int .i64 0, .int .i64 0, .slice none 0 0] 30))).cell? ⟨w.heap.size + 1, 0, none⟩ = some (.int .i64 kb) := by rw [cell_of_block bB]; rfl
  have y1 : ((((w.alloc (Obj.cells #[.int .i64 1, .int .i64 1, .int .i64 la, .slice aa na ca] 30)).alloc (Obj.cells #[.int .i64 kb, .int .i64 gb, .int .i64 lb, .slice ab nb cb] 30)).alloc (Obj.cells #[.int .i64 0, .int .i64 0, .int .i64 0, .slice none 0 0] 30))).cell? ⟨w.heap.size + 1, 1, none⟩ = some (.int .i64 gb) := by rw [cell_of_block bB]; rfl
  have y2 : ((((w.alloc (Obj.cells #[.int .i64 1, .int .i64 1, .int .i64 la, .slice aa na ca] 30)).alloc (Obj.cells #[.int .i64 kb, .int .i64 gb, .int .i64 lb, .slice ab nb cb] 30)).alloc (Obj.cells #[.int .i64 0, .int .i64 0, .int .i64 0, .slice none 0 0] 30))).cell? ⟨w.heap.size + 1, 2, none⟩ = some (.int .i64 lb) := by rw [cell_of_block bB]; rfl
  have y3 : ((((w.alloc (Obj.cells #[.int .i64 1, .int .i64 1, .int .i64 la, .slice aa na ca] 30)).alloc (Obj.cells #[.int .i64 kb, .int .i64 gb, .int .i64 lb, .slice ab nb cb] 30)).alloc (Obj.cells #[.int .i64 0, .int .i64 0, .int .i64 0, .slice none 0 0] 30))).cell? ⟨w.heap.size + 1, 3, none⟩ = some (.slice ab nb cb) := by rw [cell_of_block bB]; rfl
  have HB0 := hid hb0
  have HTA0 := hid hata0
  have HTB0 := hid hatb0
  have HBZ := hid bZ
  have HTA := hid (hata0.below hb0)
  have HTB := hid (hatb0.below hb0)
  obtain ⟨Z, hZd⟩ : ∃ Z, Z = (((w.alloc (Obj.cells #[.int .i64 1, .int .i64 1, .int .i64 la, .slice aa na ca] 30)).alloc (Obj.cells #[.int .i64 kb, .int .i64 gb, .int .i64 lb, .slice ab nb cb] 30)).alloc (Obj.cells #[.int .i64 0, .int .i64 0, .int .i64 0, .slice none 0 0] 30)) := ⟨_, rfl⟩
  rw [← hZd] at hb0 hs0 HB0 HBZ HTA HTB  x0 x1 x2 x3 y0 y1 y2 y3
  have HZS := hid hs0
  have HS0 := hid (show ∀ w', Below Z.heap.size Z w' → (fun w' => w'.cell? ⟨w.heap.size, 0, none⟩ = some (.int .i64 1) ∧ w'.cell? ⟨w.heap.size, 1, none⟩ = some (.int .i64 1) ∧ w'.cell? ⟨w.heap.size, 2, none⟩ = some (.int .i64 la) ∧ w'.cell? ⟨w.heap.size, 3, none⟩ = some (.slice aa na ca) ∧ w'.cell? ⟨w.heap.size + 1, 0, none⟩ = some (.int .i64 kb) ∧ w'.cell? ⟨w.heap.size + 1, 1, none⟩ = some (.int .i64 gb) ∧ w'.cell? ⟨w.heap.size + 1, 2, none⟩ = some (.int .i64 lb) ∧ w'.cell? ⟨w.heap.size + 1, 3, none⟩ = some (.slice ab nb cb)) w' from fun w' h => ⟨cell_keep x0 h, cell_keep x1 h, cell_keep x2 h, cell_keep x3 h, cell_keep y0 h, cell_keep y1 h, cell_keep y2 h, cell_keep y3 h⟩)
  have HZD := hid hZd
  clear hb0 hs0 bA bB bZ hata hatb hata0 hatb0 hsa hsb hZd 
  have HU := hid (isUnknownId_any _ _ _ Z HTA.out)
  have HO := hid ho
  clear ho
  have HR := hid (show o.isSome = unkC (.mk kb gb lb us) by rw [HO.out]; simp only [unkC]; by_cases h : kb = 5 ∨ kb = 1 ∧ gb = 1 <;> simp [h] <;> simp only [not_or, not_and] at h <;> first | (exact h) | (rcases h with h | h <;> simp [h]) | (exact ⟨h.1, fun e => h.2 e⟩))
  go_enter Try.func59, Try.ntmps59
  go_wp2_with fail
  rw [← HZD.out]
  refine HU.out.mono ?_
  rintro e wu ⟨rfl, hbu⟩
  have hSS := HS0.out _ hbu
  clear x0 x1 x2 x3 y0 y1 y2 y3
  obtain ⟨x0, x1, x2, x3, y0, y1, y2, y3⟩ := hSS
  have HBU := hid hbu
  have HSu := hid (show ∀ w', Below wu.heap.size wu w' → (fun w' => w'.cell? ⟨w.heap.size, 0, none⟩ = some (.int .i64 1) ∧ w'.cell? ⟨w.heap.size, 1, none⟩ = some (.int .i64 1) ∧ w'.cell? ⟨w.heap.size, 2, none⟩ = some (.int .i64 la) ∧ w'.cell? ⟨w.heap.size, 3, none⟩ = some (.slice aa na ca) ∧ w'.cell? ⟨w.heap.size + 1, 0, none⟩ = some (.int .i64 kb) ∧ w'.cell? ⟨w.heap.size + 1, 1, none⟩ = some (.int .i64 gb) ∧ w'.cell? ⟨w.heap.size + 1, 2, none⟩ = some (.int .i64 lb) ∧ w'.cell? ⟨w.heap.size + 1, 3, none⟩ = some (.slice ab nb cb)) w' from fun w' h => HS0.out _ (below_trans hbu h))
  clear hbu
  rw [uid_mk]
  go_wp2_with fail
  refine regionL (s := 3) (S0 := (fun w' => w'.cell? ⟨w.heap.size, 0, none⟩ = some (.int .i64 1) ∧ w'.cell? ⟨w.heap.size, 1, none⟩ = some (.int .i64 1) ∧ w'.cell? ⟨w.heap.size, 2, none⟩ = some (.int .i64 la) ∧ w'.cell? ⟨w.heap.size, 3, none⟩ = some (.slice aa na ca) ∧ w'.cell? ⟨w.heap.size + 1, 0, none⟩ = some (.int .i64 kb) ∧ w'.cell? ⟨w.heap.size + 1, 1, none⟩ = some (.int .i64 gb) ∧ w'.cell? ⟨w.heap.size + 1, 2, none⟩ = some (.int .i64 lb) ∧ w'.cell? ⟨w.heap.size + 1, 3, none⟩ = some (.slice ab nb cb))) (S1 := (fun w' => w'.cell? ⟨w.heap.size, 0, none⟩ = some (.int .i64 1) ∧ w'.cell? ⟨w.heap.size, 1, none⟩ = some (.int .i64 1) ∧ w'.cell? ⟨w.heap.size, 2, none⟩ = some (.int .i64 la) ∧ w'.cell? ⟨w.heap.size, 3, none⟩ = some (.slice aa na ca) ∧ w'.cell? ⟨w.heap.size + 1, 0, none⟩ = some (.int .i64 kb) ∧ w'.cell? ⟨w.heap.size + 1, 1, none⟩ = some (.int .i64 gb) ∧ w'.cell? ⟨w.heap.size + 1, 2, none⟩ = some (.int .i64 lb) ∧ w'.cell? ⟨w.heap.size + 1, 3, none⟩ = some (.slice ab nb cb))) (by kernel_rfl) (HSu.out _ (below_drew _)) (HSu.out _ (below_drew _)) (fun hS0 => ?_)
  refine takeL0 (i := 0) (v := ?vr11) rfl rfl (by kernel_rfl) (by kernel_rfl) (by kernel_rfl) (by decide) (by kernel_rfl) (by kernel_rfl) (fun _ _ _ h => h) (Or.inl ⟨by rfl, ?hyr11⟩) (by assumption) ?_
  case hyr11 => (intro w hSw; (try dsimp only at hSw); go_simp; (try with_reducible rfl))
  try simp only [Act.put, List.setIfInBounds_toArray, List.set_cons_zero, List.set_cons_succ]
  refine takeL (i := 1) (v := ?vr12) rfl (by kernel_rfl) (by kernel_rfl) (by kernel_rfl) (by decide) (fun _ _ _ h => h) (Or.inl ⟨by rfl, ?hyr12⟩) (by assumption) ?_
  case hyr12 => (intro w hSw; (try dsimp only at hSw); go_simp; (try with_reducible rfl))
  try simp only [Act.put, List.setIfInBounds_toArray, List.set_cons_zero, List.set_cons_succ]
  refine readyL (rs := [2]) (by kernel_rfl) (by simp) ?_
  refine AllReadyL.cons rfl (fun K hK => ?_) AllReadyL.nil
  go_simp
  refine (fromUnknown_any _ _ _ _ (HTB.out.below (below_trans HBU.out (below_drew wu)))).mono ?_
  rintro e w1 ⟨rfl, hb1⟩
  have hB1 := below_trans HBU.out (below_trans (below_drew wu) hb1)
  refine hK.out _ _ ?_ (fun hS1 => ?_)
  · exact ⟨HS0.out _ hB1, fun _ => HS0.out _ hB1⟩
  clear hK K hS0
  try simp only [Act.put, List.setIfInBounds_toArray, List.set_cons_zero, List.set_cons_succ]
  refine readyL (rs := [3]) (by kernel_rfl) (by simp) ?_
  refine AllReadyL.cons rfl (fun K hK => ?_) AllReadyL.nil
  have bM := (hB1.block (w.heap.size + 1 + 1) (by have := HZS.out; omega)).trans HBZ.out
  have z0 := (cell_of_block (o := 0) bM).trans (show _ = some (.int .i64 0) from rfl)
  have z1 := (cell_of_block (o := 1) bM).trans (show _ = some (.int .i64 0) from rfl)
  have z2 := (cell_of_block (o := 2) bM).trans (show _ = some (.int .i64 0) from rfl)
  have z3 := (cell_of_block (o := 3) bM).trans (show _ = some (.slice none 0 0) from rfl)
  have yz := fun o => frozen_of_block (o := o) bM
  go_simp
  refine hK.out _ _ ?_ (fun hS2 => ?_)
  · exact ⟨⟨(by rw [cell_setCell_ne, cell_setCell_ne, cell_setCell_ne, cell_setCell_ne]; exact (HS0.out _ hB1).1; all_goals (first | (show w.heap.size ≠ w.heap.size + 1 + 1; omega) | (show w.heap.size + 1 ≠ w.heap.size + 1 + 1; omega))), (by rw [cell_setCell_ne, cell_setCell_ne, cell_setCell_ne, cell_setCell_ne]; exact (HS0.out _ hB1).2.1; all_goals (first | (show w.heap.size ≠ w.heap.size + 1 + 1; omega) | (show w.heap.size + 1 ≠ w.heap.size + 1 + 1; omega))), (by rw [cell_setCell_ne, cell_setCell_ne, cell_setCell_ne, cell_setCell_ne]; exact (HS0.out _ hB1).2.2.1; all_goals (first | (show w.heap.size ≠ w.heap.size + 1 + 1; omega) | (show w.heap.size + 1 ≠ w.heap.size + 1 + 1; omega))), (by rw [cell_setCell_ne, cell_setCell_ne, cell_setCell_ne, cell_setCell_ne]; exact (HS0.out _ hB1).2.2.2.1; all_goals (first | (show w.heap.size ≠ w.heap.size + 1 + 1; omega) | (show w.heap.size + 1 ≠ w.heap.size + 1 + 1; omega))), (by rw [cell_setCell_ne, cell_setCell_ne, cell_setCell_ne, cell_setCell_ne]; exact (HS0.out _ hB1).2.2.2.2.1; all_goals (first | (show w.heap.size ≠ w.heap.size + 1 + 1; omega) | (show w.heap.size + 1 ≠ w.heap.size + 1 + 1; omega))), (by rw [cell_setCell_ne, cell_setCell_ne, cell_setCell_ne, cell_setCell_ne]; exact (HS0.out _ hB1).2.2.2.2.2.1; all_goals (first | (show w.heap.size ≠ w.heap.size + 1 + 1; omega) | (show w.heap.size + 1 ≠ w.heap.size + 1 + 1; omega))), (by rw [cell_setCell_ne, cell_setCell_ne, cell_setCell_ne, cell_setCell_ne]; exact (HS0.out _ hB1).2.2.2.2.2.2.1; all_goals (first | (show w.heap.size ≠ w.heap.size + 1 + 1; omega) | (show w.heap.size + 1 ≠ w.heap.size + 1 + 1; omega))), (by rw [cell_setCell_ne, cell_setCell_ne, cell_setCell_ne, cell_setCell_ne]; exact (HS0.out _ hB1).2.2.2.2.2.2.2; all_goals (first | (show w.heap.size ≠ w.heap.size + 1 + 1; omega) | (show w.heap.size + 1 ≠ w.heap.size + 1 + 1; omega)))⟩, fun h => absurd (h.symm.trans (show _ = true by kernel_rfl)) (by decide)⟩
  clear hK K hS1
  try simp only [Act.put, List.setIfInBounds_toArray, List.set_cons_zero, List.set_cons_succ]
  refine readyL (rs := [4]) (by kernel_rfl) (by simp) ?_
  refine AllReadyL.cons rfl (fun K hK => ?_) AllReadyL.nil
  go_simp
  refine hK.out _ _ ?_ (fun hS3 => ?_)
  · exact ⟨⟨(by rw [cell_setCell_ne, cell_setCell_ne, cell_setCell_ne, cell_setCell_ne]; exact (HS0.out _ hB1).1; all_goals (first | (show w.heap.size ≠ w.heap.size + 1 + 1; omega) | (show w.heap.size + 1 ≠ w.heap.size + 1 + 1; omega))), (by rw [cell_setCell_ne, cell_setCell_ne, cell_setCell_ne, cell_setCell_ne]; exact (HS0.out _ hB1).2.1; all_goals (first | (show w.heap.size ≠ w.heap.size + 1 + 1; omega) | (show w.heap.size + 1 ≠ w.heap.size + 1 + 1; omega))), (by rw [cell_setCell_ne, cell_setCell_ne, cell_setCell_ne, cell_setCell_ne]; exact (HS0.out _ hB1).2.2.1; all_goals (first | (show w.heap.size ≠ w.heap.size + 1 + 1; omega) | (show w.heap.size + 1 ≠ w.heap.size + 1 + 1; omega))), (by rw [cell_setCell_ne, cell_setCell_ne, cell_setCell_ne, cell_setCell_ne]; exact (HS0.out _ hB1).2.2.2.1; all_goals (first | (show w.heap.size ≠ w.heap.size + 1 + 1; omega) | (show w.heap.size + 1 ≠ w.heap.size + 1 + 1; omega))), (by rw [cell_setCell_ne, cell_setCell_ne, cell_setCell_ne, cell_setCell_ne]; exact (HS0.out _ hB1).2.2.2.2.1; all_goals (first | (show w.heap.size ≠ w.heap.size + 1 + 1; omega) | (show w.heap.size + 1 ≠ w.heap.size + 1 + 1; omega))), (by rw [cell_setCell_ne, cell_setCell_ne, cell_setCell_ne, cell_setCell_ne]; exact (HS0.out _ hB1).2.2.2.2.2.1; all_goals (first | (show w.heap.size ≠ w.heap.size + 1 + 1; omega) | (show w.heap.size + 1 ≠ w.heap.size + 1 + 1; omega))), (by rw [cell_setCell_ne, cell_setCell_ne, cell_setCell_ne, cell_setCell_ne]; exact (HS0.out _ hB1).2.2.2.2.2.2.1; all_goals (first | (show w.heap.size ≠ w.heap.size + 1 + 1; omega) | (show w.heap.size + 1 ≠ w.heap.size + 1 + 1; omega))), (by rw [cell_setCell_ne, cell_setCell_ne, cell_setCell_ne, cell_setCell_ne]; exact (HS0.out _ hB1).2.2.2.2.2.2.2; all_goals (first | (show w.heap.size ≠ w.heap.size + 1 + 1; omega) | (show w.heap.size + 1 ≠ w.heap.size + 1 + 1; omega)))⟩, fun h => absurd (h.symm.trans (show _ = true by kernel_rfl)) (by decide)⟩
  clear hK K hS2
  try simp only [Act.put, List.setIfInBounds_toArray, List.set_cons_zero, List.set_cons_succ]
  refine doneL (by kernel_rfl) ?_ _
  have FIN := closeL (k := kb) (g := gb) (l := lb) (a := ab) (n := nb) (cap := cb) (w := w) (wF := w1) (M := w.heap.size + 1 + 1) (lo := w1.heap.size) (A := fa ++ fb) (o := o) (b := unkC (.mk kb gb lb us)) (HR.out) (fun c hc => ⟨fb, (by rw [HO.out] at hc; split at hc; cases hc; exact (HTB.out.below hB1); cases hc), fun x hx => .inl (by simp [hx])⟩) HA.out (by omega) (by have := HZS.out; have := (hB1).size; omega) (below_trans HB0.out hB1)
  simp only [put4, Nat.zero_add] at FIN
  go_wp2_with fail
  exact bodyPost_ret (v := .tuple #[.agg #[.int .i64 kb, .int .i64 gb, .int .i64 lb, .slice ab nb cb], .bool (unkC (.mk kb gb lb us))]) (by simp [results, Try.results59, go_sem, z0, z1, z2, z3]) rfl FIN
set_option maxRecDepth 100000 in
set_option maxHeartbeats 4000000 in
theorem compose_prj (n : Nat) (ih : CpiC n) (ga la kb gb lb : Int) (a1 : Co) (us : List Co) (d d' : Nat) (va vb : Value) (fa fb : List Nat) (w : World) (hd : d + d' ≤ n) (hd1 : d ≤ 9) (hd2 : d' ≤ 9) (hs1 : shpK d a1 = true) (hs2 : shpK d' (.mk kb gb lb us) = true) (hata : (Co.mk 5 ga la [a1]).At w va fa) (hatb : (Co.mk kb gb lb us).At w vb fb) :
    Calls Try.prog 59 #[va, vb] w (MadeL w (fa ++ fb) ((cmpo n a1 (.mk kb gb lb us)).map fun c => .mk 5 0 la [c])) := by
  have HA := hid (show ∀ x ∈ fa ++ fb, x < w.heap.size from fun x hx => (List.mem_append.1 hx).elim (hata.lt x) (hatb.lt x))
  have hata0 := hata
  have hatb0 := hatb
  obtain ⟨sa, rfl, hsa⟩ := Co.at_mk.1 hata
  obtain ⟨sb, rfl, hsb⟩ := Co.at_mk.1 hatb
  obtain ⟨ba, oa, ca, ka1, ga1, la1, na1, aa1, ca1, fa1, rfl, hba, d0, d1, d2, d3, ha1, hfa, _⟩ := hsa.one
  obtain ⟨ab, cb, rfl⟩ := hsb.shape
  generalize hlnb : us.length = nb at *
  have hb0 : Below w.heap.size w (((w.alloc (Obj.cells #[.int .i64 5, .int .i64 ga, .int .i64 la, .slice (some ⟨ba, oa, none⟩) 1 ca] 30)).alloc (Obj.cells #[.int .i64 kb, .int .i64 gb, .int .i64 lb, .slice ab nb cb] 30)).alloc (Obj.cells #[.int .i64 0, .int .i64 0, .int .i64 0, .slice none 0 0] 30)) := (((Below.refl _ _).alloc (Nat.le_refl _) _).alloc (by simp) _).alloc (by simp; omega) _
  have hs0 : ((((w.alloc (Obj.cells #[.int .i64 5, .int .i64 ga, .int .i64 la, .slice (some ⟨ba, oa, none⟩) 1 ca] 30)).alloc (Obj.cells #[.int .i64 kb, .int .i64 gb, .int .i64 lb, .slice ab nb cb] 30)).alloc (Obj.cells #[.int .i64 0, .int .i64 0, .int .i64 0, .slice none 0 0] 30))).heap.size = w.heap.size + 1 + 1 + 1 := by simp
  obtain ⟨bA, bB, bZ⟩ := three3 (Below.refl ((((w.alloc (Obj.cells #[.int .i64 5, .int .i64 ga, .int .i64 la, .slice (some ⟨ba, oa, none⟩) 1 ca] 30)).alloc (Obj.cells #[.int .i64 kb, .int .i64 gb, .int .i64 lb, .slice ab nb cb] 30)).alloc (Obj.cells #[.int .i64 0, .int .i64 0, .int .i64 0, .slice none 0 0] 30))).heap.size (((w.alloc (Obj.cells #[.int .i64 5, .int .i64 ga, .int .i64 la, .slice (some ⟨ba, oa, none⟩) 1 ca] 30)).alloc (Obj.cells #[.int .i64 kb, .int .i64 gb, .int .i64 lb, .slice ab nb cb] 30)).alloc (Obj.cells #[.int .i64 0, .int .i64 0, .int .i64 0, .slice none 0 0] 30)))
  have x0 : ((((w.alloc (Obj.cells #[.int .i64 5, .int .i64 ga, .int .i64 la, .slice (some ⟨ba, oa, none⟩) 1 ca] 30)).alloc (Obj.cells #[.int .i64 kb, .int .i64 gb, .int .i64 lb, .slice ab nb cb] 30)).alloc (Obj.cells #[.int .i64 0, .int .i64 0, .int .i64 0, .slice none 0 0] 30))).cell? ⟨w.heap.size, 0, none⟩ = some (.int .i64 5) := by rw [cell_of_block bA]; rfl
  have x1 : ((((w.alloc (Obj.cells #[.int .i64 5, .int .i64 ga, .int .i64 la, .slice (some ⟨ba, oa, none⟩) 1 ca] 30)).alloc (Obj.cells #[.int .i64 kb, .int .i64 gb, .int .i64 lb, .slice ab nb cb] 30)).alloc (Obj.cells #[.int .i64 0, .int .i64 0, .int .i64 0, .slice none 0 0] 30))).cell? ⟨w.heap.size, 1, none⟩ = some (.int .i64 ga) := by rw [cell_of_block bA]; rfl
  have x2 : ((((w.alloc (Obj.cells #[.int .i64 5, .int .i64 ga, .int .i64 la, .slice (some ⟨ba, oa, none⟩) 1 ca] 30)).alloc (Obj.cells #[.int .i64 kb, .int .i64 gb, .int .i64 lb, .slice ab nb cb] 30)).alloc (Obj.cells #[.int .i64 0, .int .i64 0, .int .i64 0, .slice none 0 0] 30))).cell? ⟨w.heap.size, 2, none⟩ = some (.int .i64 la) := by rw [cell_of_block bA]; rfl
  have x3 : ((((w.alloc (Obj.cells #[.int .i64 5, .int .i64 ga, .int .i64 la, .slice (some ⟨ba, oa, none⟩) 1 ca] 30)).alloc (Obj.cells #[.int .i64 kb, .int .i64 gb, .int .i64 lb, .slice ab nb cb] 30)).alloc (Obj.cells #[.int .i64 0, .int .i64 0, .int .i64 0, .slice none 0 0] 30))).cell? ⟨w.heap.size, 3, none⟩ = some (.slice (some ⟨ba, oa, none⟩) 1 ca) := by rw [cell_of_block bA]; rfl
  have y0 : ((((w.alloc (Obj.cells #[.int .i64 5, .int .i64 ga, .int .i64 la, .slice (some ⟨ba, oa, none⟩) 1 ca] 30)).alloc (Obj.cells #[.int .i64 kb, .int .i64 gb, .int .i64 lb, .slice ab nb cb] 30)).alloc (Obj.cells #[.int .i64 0, .int .i64 0, .int .i64 0, .slice none 0 0] 30))).cell? ⟨w.heap.size + 1, 0, none⟩ = some (.int .i64 kb) := by rw [cell_of_block bB]; rfl
  have y1 : ((((w.alloc (Obj.cells #[.int .i64 5, .int .i64 ga, .int .i64 la, .slice (some ⟨ba, oa, none⟩) 1 ca] 30)).alloc (Obj.cells #[.int .i64 kb, .int .i64 gb, .int .i64 lb, .slice ab nb cb] 30)).alloc (Obj.cells #[.int .i64 0, .int .i64 0, .int .i64 0, .slice none 0 0] 30))).cell? ⟨w.heap.size + 1, 1, none⟩ = some (.int .i64 gb) := by rw [cell_of_block bB]; rfl
  have y2 : ((((w.alloc (Obj.cells #[.int .i64 5, .int .i64 ga, .int .i64 la, .slice (some ⟨ba, oa, none⟩) 1 ca] 30)).alloc (Obj.cells #[.int .i64 kb, .int .i64 gb, .int .i64 lb, .slice ab nb cb] 30)).alloc (Obj.cells #[.int .i64 0, .int .i64 0, .int .i64 0, .slice none 0 0] 30))).cell? ⟨w.heap.size + 1, 2, none⟩ = some (.int .i64 lb) := by rw [cell_of_block bB]; rfl
  have y3 : ((((w.alloc (Obj.cells #[.int .i64 5, .int .i64 ga, .int .i64 la, .slice (some ⟨ba, oa, none⟩) 1 ca] 30)).alloc (Obj.cells #[.int .i64 kb, .int .i64 gb, .int .i64 lb, .slice ab nb cb] 30)).alloc (Obj.cells #[.int .i64 0, .int .i64 0, .int .i64 0, .slice none 0 0] 30))).cell? ⟨w.heap.size + 1, 3, none⟩ = some (.slice ab nb cb) := by rw [cell_of_block bB]; rfl
  replace d0 := cell_keep d0 hb0
  replace d1 := cell_keep d1 hb0
  replace d2 := cell_keep d2 hb0
  replace d3 := cell_keep d3 hb0
  have HB0 := hid hb0
  have HTA0 := hid hata0
  have HTB0 := hid hatb0
  have HBZ := hid bZ
  have HTA := hid (hata0.below hb0)
  have HTB := hid (hatb0.below hb0)
  have Hha1 := hid (ha1.below hb0)
  obtain ⟨Z, hZd⟩ : ∃ Z, Z = (((w.alloc (Obj.cells #[.int .i64 5, .int .i64 ga, .int .i64 la, .slice (some ⟨ba, oa, none⟩) 1 ca] 30)).alloc (Obj.cells #[.int .i64 kb, .int .i64 gb, .int .i64 lb, .slice ab nb cb] 30)).alloc (Obj.cells #[.int .i64 0, .int .i64 0, .int .i64 0, .slice none 0 0] 30)) := ⟨_, rfl⟩
  rw [← hZd] at hb0 hs0 HB0 HBZ HTA HTB Hha1 x0 x1 x2 x3 y0 y1 y2 y3 d0 d1 d2 d3
  have HZS := hid hs0
  have HS0 := hid (show ∀ w', Below Z.heap.size Z w' → (fun w' => w'.cell? ⟨w.heap.size, 0, none⟩ = some (.int .i64 5) ∧ w'.cell? ⟨w.heap.size, 1, none⟩ = some (.int .i64 ga) ∧ w'.cell? ⟨w.heap.size, 2, none⟩ = some (.int .i64 la) ∧ w'.cell? ⟨w.heap.size, 3, none⟩ = some (.slice (some ⟨ba, oa, none⟩) 1 ca) ∧ w'.cell? ⟨w.heap.size + 1, 0, none⟩ = some (.int .i64 kb) ∧ w'.cell? ⟨w.heap.size + 1, 1, none⟩ = some (.int .i64 gb) ∧ w'.cell? ⟨w.heap.size + 1, 2, none⟩ = some (.int .i64 lb) ∧ w'.cell? ⟨w.heap.size + 1, 3, none⟩ = some (.slice ab nb cb) ∧ w'.cell? ⟨ba, oa, none⟩ = some (.int .i64 ka1) ∧ w'.cell? ⟨ba, oa + 1, none⟩ = some (.int .i64 ga1) ∧ w'.cell? ⟨ba, oa + 2, none⟩ = some (.int .i64 la1) ∧ w'.cell? ⟨ba, oa + 3, none⟩ = some (.slice aa1 na1 ca1)) w' from fun w' h => ⟨cell_keep x0 h, cell_keep x1 h, cell_keep x2 h, cell_keep x3 h, cell_keep y0 h, cell_keep y1 h, cell_keep y2 h, cell_keep y3 h, cell_keep d0 h, cell_keep d1 h, cell_keep d2 h, cell_keep d3 h⟩)
  have HZD := hid hZd
  clear hb0 hs0 bA bB bZ hata hatb hata0 hatb0 hsa hsb hZd ha1
  have HP := hid (And.intro hd (And.intro hd1 (And.intro hd2 (And.intro hs1 hs2))))
  have HIH := hid ih
  have HF := hid hfa
  have hu1 : ((5 : Int) == 1 && ga == 1) = false := rfl
  clear hd hd1 hd2 hs1 hs2 ih hfa
  have HU := hid (isUnknownId_any _ _ _ Z HTA.out)
  rw [uid_mk, hu1] at HU
  clear hu1
  go_enter Try.func59, Try.ntmps59
  go_wp2_with fail
  rw [← HZD.out]
  refine HU.out.mono ?_
  rintro e wu ⟨rfl, hbu⟩
  have hSS := HS0.out _ hbu
  clear x0 x1 x2 x3 y0 y1 y2 y3 d0 d1 d2 d3
  obtain ⟨x0, x1, x2, x3, y0, y1, y2, y3, d0, d1, d2, d3⟩ := hSS
  have HBU := hid hbu
  have HSu := hid (show ∀ w', Below wu.heap.size wu w' → (fun w' => w'.cell? ⟨w.heap.size, 0, none⟩ = some (.int .i64 5) ∧ w'.cell? ⟨w.heap.size, 1, none⟩ = some (.int .i64 ga) ∧ w'.cell? ⟨w.heap.size, 2, none⟩ = some (.int .i64 la) ∧ w'.cell? ⟨w.heap.size, 3, none⟩ = some (.slice (some ⟨ba, oa, none⟩) 1 ca) ∧ w'.cell? ⟨w.heap.size + 1, 0, none⟩ = some (.int .i64 kb) ∧ w'.cell? ⟨w.heap.size + 1, 1, none⟩ = some (.int .i64 gb) ∧ w'.cell? ⟨w.heap.size + 1, 2, none⟩ = some (.int .i64 lb) ∧ w'.cell? ⟨w.heap.size + 1, 3, none⟩ = some (.slice ab nb cb) ∧ w'.cell? ⟨ba, oa, none⟩ = some (.int .i64 ka1) ∧ w'.cell? ⟨ba, oa + 1, none⟩ = some (.int .i64 ga1) ∧ w'.cell? ⟨ba, oa + 2, none⟩ = some (.int .i64 la1) ∧ w'.cell? ⟨ba, oa + 3, none⟩ = some (.slice aa1 na1 ca1)) w' from fun w' h => HS0.out _ (below_trans hbu h))
  have HZU := hid hbu.size
  clear hbu
  go_wp2_with fail
  go_cut [6, 7] (fun sx sq wx => CutL wu (fa1 ++ fb) (cmpo n a1 (.mk kb gb lb us)) sx sq wx)
  case first =>
    refine regionL (s := 10) (S0 := (fun w' => w'.cell? ⟨w.heap.size, 0, none⟩ = some (.int .i64 5) ∧ w'.cell? ⟨w.heap.size, 1, none⟩ = some (.int .i64 ga) ∧ w'.cell? ⟨w.heap.size, 2, none⟩ = some (.int .i64 la) ∧ w'.cell? ⟨w.heap.size, 3, none⟩ = some (.slice (some ⟨ba, oa, none⟩) 1 ca) ∧ w'.cell? ⟨w.heap.size + 1, 0, none⟩ = some (.int .i64 kb) ∧ w'.cell? ⟨w.heap.size + 1, 1, none⟩ = some (.int .i64 gb) ∧ w'.cell? ⟨w.heap.size + 1, 2, none⟩ = some (.int .i64 lb) ∧ w'.cell? ⟨w.heap.size + 1, 3, none⟩ = some (.slice ab nb cb) ∧ w'.cell? ⟨ba, oa, none⟩ = some (.int .i64 ka1) ∧ w'.cell? ⟨ba, oa + 1, none⟩ = some (.int .i64 ga1) ∧ w'.cell? ⟨ba, oa + 2, none⟩ = some (.int .i64 la1) ∧ w'.cell? ⟨ba, oa + 3, none⟩ = some (.slice aa1 na1 ca1))) (S1 := (fun _ => True)) (by kernel_rfl) (HSu.out _ (below_drew _)) (trivial) (fun hS0 => ?_)
    refine takeL0 (i := 0) (v := ?vr11) rfl rfl (by kernel_rfl) (by kernel_rfl) (by kernel_rfl) (by decide) (by kernel_rfl) (by kernel_rfl) (fun _ _ _ h => h) (Or.inl ⟨by rfl, ?hyr11⟩) (by assumption) ?_
    case hyr11 => (intro w hSw; (try dsimp only at hSw); go_simp; (try with_reducible rfl))
    try simp only [Act.put, List.setIfInBounds_toArray, List.set_cons_zero, List.set_cons_succ]
    refine takeL0 (i := 1) (v := ?vr12) rfl rfl (by kernel_rfl) (by kernel_rfl) (by kernel_rfl) (by decide) (by kernel_rfl) (by kernel_rfl) (fun _ _ _ h => h) (Or.inl ⟨by rfl, ?hyr12⟩) (by assumption) ?_
    case hyr12 => (intro w hSw; (try dsimp only at hSw); go_simp; (try with_reducible rfl))
    try simp only [Act.put, List.setIfInBounds_toArray, List.set_cons_zero, List.set_cons_succ]
    refine takeL0 (i := 2) (v := ?vr13) rfl rfl (by kernel_rfl) (by kernel_rfl) (by kernel_rfl) (by decide) (by kernel_rfl) (by kernel_rfl) (fun _ _ _ h => h) (Or.inl ⟨by rfl, ?hyr13⟩) (by assumption) ?_
    case hyr13 => (intro w hSw; (try dsimp only at hSw); go_simp; (try with_reducible rfl))
    try simp only [Act.put, List.setIfInBounds_toArray, List.set_cons_zero, List.set_cons_succ]
    refine takeL0 (i := 3) (v := ?vr14) rfl rfl (by kernel_rfl) (by kernel_rfl) (by kernel_rfl) (by decide) (by kernel_rfl) (by kernel_rfl) (fun _ _ _ h => h) (Or.inl ⟨by rfl, ?hyr14⟩) (by assumption) ?_
    case hyr14 => (intro w hSw; (try dsimp only at hSw); go_simp; (try with_reducible rfl))
    try simp only [Act.put, List.setIfInBounds_toArray, List.set_cons_zero, List.set_cons_succ]
    refine takeL0 (i := 4) (v := ?vr15) rfl rfl (by kernel_rfl) (by kernel_rfl) (by kernel_rfl) (by decide) (by kernel_rfl) (by kernel_rfl) (fun _ _ _ h => h) (Or.inl ⟨by rfl, ?hyr15⟩) (by assumption) ?_
    case hyr15 => (intro w hSw; (try dsimp only at hSw); go_simp; (try with_reducible rfl))
    try simp only [Act.put, List.setIfInBounds_toArray, List.set_cons_zero, List.set_cons_succ]
    refine readyL (rs := [5, 9]) (by kernel_rfl) (by simp) ?_
    refine AllReadyL.cons rfl (fun K hK => ?_) ?_
    · go_simp
      refine (ci_from HIH.out (W0 := wu) (below_drew wu) HP.out.1 HP.out.2.1 HP.out.2.2.1 HP.out.2.2.2.1 HP.out.2.2.2.2 (Hha1.out.below HBU.out) (HTB.out.below HBU.out)).mono ?_
      rintro e w1 ⟨⟨p0, p1, p2, pa, pn, pc, rfl, hb1, hO⟩, hU⟩
      have hB1 := below_trans hU hb1
      have hU1 := hU.size
      refine hK.out _ _ ?_ (fun hS1 => ?_)
      · exact ⟨trivial, fun _ => HSu.out _ hB1⟩
      clear hK K hS0
      try simp only [Act.put, List.setIfInBounds_toArray, List.set_cons_zero, List.set_cons_succ]
      refine takeL0 (i := 6) (v := ?vr16) rfl rfl (by kernel_rfl) (by kernel_rfl) (by kernel_rfl) (by decide) (by kernel_rfl) (by kernel_rfl) (fun _ _ _ h => h) (Or.inl ⟨by rfl, ?hyr16⟩) (by assumption) ?_
      case hyr16 => (intro w hSw; (try dsimp only at hSw); go_simp; (try with_reducible rfl))
      try simp only [Act.put, List.setIfInBounds_toArray, List.set_cons_zero, List.set_cons_succ]
      refine readyL (rs := [7, 8, 9]) (by kernel_rfl) (by simp) ?_
      refine AllReadyL.cons rfl (fun K hK => ?_) ?_
      · go_simp
        refine hK.out _ _ ?_ (fun hS2 => ?_)
        · exact ⟨trivial, fun _ => HSu.out _ hB1⟩
        clear hK K hS1
        try simp only [Act.put, List.setIfInBounds_toArray, List.set_cons_zero, List.set_cons_succ]
        refine readyL (rs := [8, 9]) (by kernel_rfl) (by simp) ?_
        refine AllReadyL.cons rfl (fun K hK => ?_) ?_
        · go_simp
          refine hK.out _ _ ?_ (fun hS3 => ?_)
          · exact ⟨trivial, fun _ => HSu.out _ hB1⟩
          clear hK K hS2
          try simp only [Act.put, List.setIfInBounds_toArray, List.set_cons_zero, List.set_cons_succ]
          refine readyL (rs := [9]) (by kernel_rfl) (by simp) ?_
          refine AllReadyL.cons rfl (fun K hK => ?_) AllReadyL.nil
          go_simp
          refine hK.out _ _ ?_ (fun hS4 => ?_)
          · exact ⟨trivial, fun _ => HSu.out _ (hB1.alloc hB1.size _)⟩
          clear hK K hS3
          try simp only [Act.put, List.setIfInBounds_toArray, List.set_cons_zero, List.set_cons_succ]
          refine readyL (rs := [10]) (by kernel_rfl) (by simp) ?_
          refine AllReadyL.cons rfl (fun K hK => ?_) AllReadyL.nil
          go_simp
          refine hK.out _ _ ?_ (fun hS5 => ?_)
          · exact ⟨trivial, fun h => absurd (h.symm.trans (show _ = true by kernel_rfl)) (by decide)⟩
          clear hK K hS4
          try simp only [Act.put, List.setIfInBounds_toArray, List.set_cons_zero, List.set_cons_succ]
          refine readyL (rs := [11]) (by kernel_rfl) (by simp) ?_
          refine AllReadyL.cons rfl (fun K hK => ?_) AllReadyL.nil
          go_simp
          refine hK.out _ _ ?_ (fun hS6 => ?_)
          · exact ⟨trivial, fun h => absurd (h.symm.trans (show _ = true by kernel_rfl)) (by decide)⟩
          clear hK K hS5
          try simp only [Act.put, List.setIfInBounds_toArray, List.set_cons_zero, List.set_cons_succ]
          refine doneL (by kernel_rfl) ?_ _
          go_wp2_with fail
          go_meet
          exact cutL_alloc hO hU1 hB1
        refine AllReadyL.cons rfl (fun K hK => ?_) AllReadyL.nil
        go_simp
        refine hK.out _ _ ?_ (fun hS3 => ?_)
        · exact ⟨trivial, fun _ => HSu.out _ (hB1.alloc hB1.size _)⟩
        clear hK K hS2
        try simp only [Act.put, List.setIfInBounds_toArray, List.set_cons_zero, List.set_cons_succ]
        refine readyL (rs := [8, 10]) (by kernel_rfl) (by simp) ?_
        refine AllReadyL.cons rfl (fun K hK => ?_) ?_
        · go_simp
          refine hK.out _ _ ?_ (fun hS4 => ?_)
          · exact ⟨trivial, fun _ => HSu.out _ (hB1.alloc hB1.size _)⟩
          clear hK K hS3
          try simp only [Act.put, List.setIfInBounds_toArray, List.set_cons_zero, List.set_cons_succ]
          refine readyL (rs := [10]) (by kernel_rfl) (by simp) ?_
          refine AllReadyL.cons rfl (fun K hK => ?_) AllReadyL.nil
          go_simp
          refine hK.out _ _ ?_ (fun hS5 => ?_)
          · exact ⟨trivial, fun h => absurd (h.symm.trans (show _ = true by kernel_rfl)) (by decide)⟩
          clear hK K hS4
          try simp only [Act.put, List.setIfInBounds_toArray, List.set_cons_zero, List.set_cons_succ]
          refine readyL (rs := [11]) (by kernel_rfl) (by simp) ?_
          refine AllReadyL.cons rfl (fun K hK => ?_) AllReadyL.nil
          go_simp
          refine hK.out _ _ ?_ (fun hS6 => ?_)
          · exact ⟨trivial, fun h => absurd (h.symm.trans (show _ = true by kernel_rfl)) (by decide)⟩
          clear hK K hS5
          try simp only [Act.put, List.setIfInBounds_toArray, List.set_cons_zero, List.set_cons_succ]
          refine doneL (by kernel_rfl) ?_ _
          go_wp2_with fail
          go_meet
          exact cutL_alloc hO hU1 hB1
        refine AllReadyL.cons rfl (fun K hK => ?_) AllReadyL.nil
        go_simp
        refine hK.out _ _ ?_ (fun hS4 => ?_)
        · exact ⟨trivial, fun h => absurd (h.symm.trans (show _ = true by kernel_rfl)) (by decide)⟩
        clear hK K hS3
        try simp only [Act.put, List.setIfInBounds_toArray, List.set_cons_zero, List.set_cons_succ]
        refine readyL (rs := [8]) (by kernel_rfl) (by simp) ?_
        refine AllReadyL.cons rfl (fun K hK => ?_) AllReadyL.nil
        go_simp
        refine hK.out _ _ ?_ (fun hS5 => ?_)
        · exact ⟨trivial, fun h => absurd (h.symm.trans (show _ = true by kernel_rfl)) (by decide)⟩
        clear hK K hS4
        try simp only [Act.put, List.setIfInBounds_toArray, List.set_cons_zero, List.set_cons_succ]
        refine readyL (rs := [11]) (by kernel_rfl) (by simp) ?_
        refine AllReadyL.cons rfl (fun K hK => ?_) AllReadyL.nil
        go_simp
        refine hK.out _ _ ?_ (fun hS6 => ?_)
        · exact ⟨trivial, fun h => absurd (h.symm.trans (show _ = true by kernel_rfl)) (by decide)⟩
        clear hK K hS5
        try simp only [Act.put, List.setIfInBounds_toArray, List.set_cons_zero, List.set_cons_succ]
        refine doneL (by kernel_rfl) ?_ _
        go_wp2_with fail
        go_meet
        exact cutL_alloc hO hU1 hB1
      refine AllReadyL.cons rfl (fun K hK => ?_) ?_
      · go_simp
        refine hK.out _ _ ?_ (fun hS2 => ?_)
        · exact ⟨trivial, fun _ => HSu.out _ hB1⟩
        clear hK K hS1
        try simp only [Act.put, List.setIfInBounds_toArray, List.set_cons_zero, List.set_cons_succ]
        refine readyL (rs := [7, 9]) (by kernel_rfl) (by simp) ?_
        refine AllReadyL.cons rfl (fun K hK => ?_) ?_
        · go_simp
          refine hK.out _ _ ?_ (fun hS3 => ?_)
          · exact ⟨trivial, fun _ => HSu.out _ hB1⟩
          clear hK K hS2
          try simp only [Act.put, List.setIfInBounds_toArray, List.set_cons_zero, List.set_cons_succ]
          refine readyL (rs := [9]) (by kernel_rfl) (by simp) ?_
          refine AllReadyL.cons rfl (fun K hK => ?_) AllReadyL.nil
          go_simp
          refine hK.out _ _ ?_ (fun hS4 => ?_)
          · exact ⟨trivial, fun _ => HSu.out _ (hB1.alloc hB1.size _)⟩
          clear hK K hS3
          try simp only [Act.put, List.setIfInBounds_toArray, List.set_cons_zero, List.set_cons_succ]
          refine readyL (rs := [10]) (by kernel_rfl) (by simp) ?_
          refine AllReadyL.cons rfl (fun K hK => ?_) AllReadyL.nil
          go_simp
          refine hK.out _ _ ?_ (fun hS5 => ?_)
          · exact ⟨trivial, fun h => absurd (h.symm.trans (show _ = true by kernel_rfl)) (by decide)⟩
          clear hK K hS4
          try simp only [Act.put, List.setIfInBounds_toArray, List.set_cons_zero, List.set_cons_succ]
          refine readyL (rs := [11]) (by kernel_rfl) (by simp) ?_
          refine AllReadyL.cons rfl (fun K hK => ?_) AllReadyL.nil
          go_simp
          refine hK.out _ _ ?_ (fun hS6 => ?_)
          · exact ⟨trivial, fun h => absurd (h.symm.trans (show _ = true by kernel_rfl)) (by decide)⟩
          clear hK K hS5
          try simp only [Act.put, List.setIfInBounds_toArray, List.set_cons_zero, List.set_cons_succ]
          refine doneL (by kernel_rfl) ?_ _
          go_wp2_with fail
          go_meet
          exact cutL_alloc hO hU1 hB1
        refine AllReadyL.cons rfl (fun K hK => ?_) AllReadyL.nil
        go_simp
        refine hK.out _ _ ?_ (fun hS3 => ?_)
        · exact ⟨trivial, fun _ => HSu.out _ (hB1.alloc hB1.size _)⟩
        clear hK K hS2
        try simp only [Act.put, List.setIfInBounds_toArray, List.set_cons_zero, List.set_cons_succ]
        refine readyL (rs := [7]) (by kernel_rfl) (by simp) ?_
        refine AllReadyL.cons rfl (fun K hK => ?_) AllReadyL.nil
        go_simp
        refine hK.out _ _ ?_ (fun hS4 => ?_)
        · exact ⟨trivial, fun _ => HSu.out _ (hB1.alloc hB1.size _)⟩
        clear hK K hS3
        try simp only [Act.put, List.setIfInBounds_toArray, List.set_cons_zero, List.set_cons_succ]
        refine readyL (rs := [10]) (by kernel_rfl) (by simp) ?_
        refine AllReadyL.cons rfl (fun K hK => ?_) AllReadyL.nil
        go_simp
        refine hK.out _ _ ?_ (fun hS5 => ?_)
        · exact ⟨trivial, fun h => absurd (h.symm.trans (show _ = true by kernel_rfl)) (by decide)⟩
        clear hK K hS4
        try simp only [Act.put, List.setIfInBounds_toArray, List.set_cons_zero, List.set_cons_succ]
        refine readyL (rs := [11]) (by kernel_rfl) (by simp) ?_
        refine AllReadyL.cons rfl (fun K hK => ?_) AllReadyL.nil
        go_simp
        refine hK.out _ _ ?_ (fun hS6 => ?_)
        · exact ⟨trivial, fun h => absurd (h.symm.trans (show _ = true by kernel_rfl)) (by decide)⟩
        clear hK K hS5
        try simp only [Act.put, List.setIfInBounds_toArray, List.set_cons_zero, List.set_cons_succ]
        refine doneL (by kernel_rfl) ?_ _
        go_wp2_with fail
        go_meet
        exact cutL_alloc hO hU1 hB1
      refine AllReadyL.cons rfl (fun K hK => ?_) AllReadyL.nil
      go_simp
      refine hK.out _ _ ?_ (fun hS2 => ?_)
      · exact ⟨trivial, fun _ => HSu.out _ (hB1.alloc hB1.size _)⟩
      clear hK K hS1
      try simp only [Act.put, List.setIfInBounds_toArray, List.set_cons_zero, List.set_cons_succ]
      refine readyL (rs := [7, 8]) (by kernel_rfl) (by simp) ?_
      refine AllReadyL.cons rfl (fun K hK => ?_) ?_
      · go_simp
        refine hK.out _ _ ?_ (fun hS3 => ?_)
        · exact ⟨trivial, fun _ => HSu.out _ (hB1.alloc hB1.size _)⟩
        clear hK K hS2
        try simp only [Act.put, List.setIfInBounds_toArray, List.set_cons_zero, List.set_cons_succ]
        refine readyL (rs := [8, 10]) (by kernel_rfl) (by simp) ?_
        refine AllReadyL.cons rfl (fun K hK => ?_) ?_
        · go_simp
          refine hK.out _ _ ?_ (fun hS4 => ?_)
          · exact ⟨trivial, fun _ => HSu.out _ (hB1.alloc hB1.size _)⟩
          clear hK K hS3
          try simp only [Act.put, List.setIfInBounds_toArray, List.set_cons_zero, List.set_cons_succ]
          refine readyL (rs := [10]) (by kernel_rfl) (by simp) ?_
          refine AllReadyL.cons rfl (fun K hK => ?_) AllReadyL.nil
          go_simp
          refine hK.out _ _ ?_ (fun hS5 => ?_)
          · exact ⟨trivial, fun h => absurd (h.symm.trans (show _ = true by kernel_rfl)) (by decide)⟩
          clear hK K hS4
          try simp only [Act.put, List.setIfInBounds_toArray, List.set_cons_zero, List.set_cons_succ]
          refine readyL (rs := [11]) (by kernel_rfl) (by simp) ?_
          refine AllReadyL.cons rfl (fun K hK => ?_) AllReadyL.nil
          go_simp
          refine hK.out _ _ ?_ (fun hS6 => ?_)
          · exact ⟨trivial, fun h => absurd (h.symm.trans (show _ = true by kernel_rfl)) (by decide)⟩
          clear hK K hS5
          try simp only [Act.put, List.setIfInBounds_toArray, List.set_cons_zero, List.set_cons_succ]
          refine doneL (by kernel_rfl) ?_ _
          go_wp2_with fail
          go_meet
          exact cutL_alloc hO hU1 hB1
        refine AllReadyL.cons rfl (fun K hK => ?_) AllReadyL.nil
        go_simp
        refine hK.out _ _ ?_ (fun hS4 => ?_)
        · exact ⟨trivial, fun h => absurd (h.symm.trans (show _ = true by kernel_rfl)) (by decide)⟩
        clear hK K hS3
        try simp only [Act.put, List.setIfInBounds_toArray, List.set_cons_zero, List.set_cons_succ]
        refine readyL (rs := [8]) (by kernel_rfl) (by simp) ?_
        refine AllReadyL.cons rfl (fun K hK => ?_) AllReadyL.nil
        go_simp
        refine hK.out _ _ ?_ (fun hS5 => ?_)
        · exact ⟨trivial, fun h => absurd (h.symm.trans (show _ = true by kernel_rfl)) (by decide)⟩
        clear hK K hS4
        try simp only [Act.put, List.setIfInBounds_toArray, List.set_cons_zero, List.set_cons_succ]
        refine readyL (rs := [11]) (by kernel_rfl) (by simp) ?_
        refine AllReadyL.cons rfl (fun K hK => ?_) AllReadyL.nil
        go_simp
        refine hK.out _ _ ?_ (fun hS6 => ?_)
        · exact ⟨trivial, fun h => absurd (h.symm.trans (show _ = true by kernel_rfl)) (by decide)⟩
        clear hK K hS5
        try simp only [Act.put, List.setIfInBounds_toArray, List.set_cons_zero, List.set_cons_succ]
        refine doneL (by kernel_rfl) ?_ _
        go_wp2_with fail
        go_meet
        exact cutL_alloc hO hU1 hB1
      refine AllReadyL.cons rfl (fun K hK => ?_) AllReadyL.nil
      go_simp
      refine hK.out _ _ ?_ (fun hS3 => ?_)
      · exact ⟨trivial, fun _ => HSu.out _ (hB1.alloc hB1.size _)⟩
      clear hK K hS2
      try simp only [Act.put, List.setIfInBounds_toArray, List.set_cons_zero, List.set_cons_succ]
      refine readyL (rs := [7]) (by kernel_rfl) (by simp) ?_
      refine AllReadyL.cons rfl (fun K hK => ?_) AllReadyL.nil
      go_simp
      refine hK.out _ _ ?_ (fun hS4 => ?_)
      · exact ⟨trivial, fun _ => HSu.out _ (hB1.alloc hB1.size _)⟩
      clear hK K hS3
      try simp only [Act.put, List.setIfInBounds_toArray, List.set_cons_zero, List.set_cons_succ]
      refine readyL (rs := [10]) (by kernel_rfl) (by simp) ?_
      refine AllReadyL.cons rfl (fun K hK => ?_) AllReadyL.nil
      go_simp
      refine hK.out _ _ ?_ (fun hS5 => ?_)
      · exact ⟨trivial, fun h => absurd (h.symm.trans (show _ = true by kernel_rfl)) (by decide)⟩
      clear hK K hS4
      try simp only [Act.put, List.setIfInBounds_toArray, List.set_cons_zero, List.set_cons_succ]
      refine readyL (rs := [11]) (by kernel_rfl) (by simp) ?_
      refine AllReadyL.cons rfl (fun K hK => ?_) AllReadyL.nil
      go_simp
      refine hK.out _ _ ?_ (fun hS6 => ?_)
      · exact ⟨trivial, fun h => absurd (h.symm.trans (show _ = true by kernel_rfl)) (by decide)⟩
      clear hK K hS5
      try simp only [Act.put, List.setIfInBounds_toArray, List.set_cons_zero, List.set_cons_succ]
      refine doneL (by kernel_rfl) ?_ _
      go_wp2_with fail
      go_meet
      exact cutL_alloc hO hU1 hB1
    refine AllReadyL.cons rfl (fun K hK => ?_) AllReadyL.nil
    go_simp
    refine hK.out _ _ ?_ (fun hS1 => ?_)
    · exact ⟨trivial, fun _ => HSu.out _ ((below_drew _).alloc (by simp) _)⟩
    clear hK K hS0
    try simp only [Act.put, List.setIfInBounds_toArray, List.set_cons_zero, List.set_cons_succ]
    refine readyL (rs := [5]) (by kernel_rfl) (by simp) ?_
    refine AllReadyL.cons rfl (fun K hK => ?_) AllReadyL.nil
    go_simp
    refine (ci_from HIH.out (W0 := wu) (((Below.refl (wu).heap.size wu).alloc (Nat.le_refl _) (Obj.cells #[.int .i64 0, .int .i64 0, .int .i64 0, .slice none 0 0] 30)).drew) HP.out.1 HP.out.2.1 HP.out.2.2.1 HP.out.2.2.2.1 HP.out.2.2.2.2 (Hha1.out.below HBU.out) (HTB.out.below HBU.out)).mono ?_
    rintro e w1 ⟨⟨p0, p1, p2, pa, pn, pc, rfl, hb1, hO⟩, hU⟩
    have hB1 := below_trans hU hb1
    have hU1 := hU.size
    refine hK.out _ _ ?_ (fun hS2 => ?_)
    · exact ⟨trivial, fun _ => HSu.out _ hB1⟩
    clear hK K hS1
    try simp only [Act.put, List.setIfInBounds_toArray, List.set_cons_zero, List.set_cons_succ]
    refine takeL0 (i := 6) (v := ?vr17) rfl rfl (by kernel_rfl) (by kernel_rfl) (by kernel_rfl) (by decide) (by kernel_rfl) (by kernel_rfl) (fun _ _ _ h => h) (Or.inl ⟨by rfl, ?hyr17⟩) (by assumption) ?_
    case hyr17 => (intro w hSw; (try dsimp only at hSw); go_simp; (try with_reducible rfl))
    try simp only [Act.put, List.setIfInBounds_toArray, List.set_cons_zero, List.set_cons_succ]
    refine readyL (rs := [7, 8]) (by kernel_rfl) (by simp) ?_
    refine AllReadyL.cons rfl (fun K hK => ?_) ?_
    · go_simp
      refine hK.out _ _ ?_ (fun hS3 => ?_)
      · exact ⟨trivial, fun _ => HSu.out _ hB1⟩
      clear hK K hS2
      try simp only [Act.put, List.setIfInBounds_toArray, List.set_cons_zero, List.set_cons_succ]
      refine readyL (rs := [8, 10]) (by kernel_rfl) (by simp) ?_
      refine AllReadyL.cons rfl (fun K hK => ?_) ?_
      · go_simp
        refine hK.out _ _ ?_ (fun hS4 => ?_)
        · exact ⟨trivial, fun _ => HSu.out _ hB1⟩
        clear hK K hS3
        try simp only [Act.put, List.setIfInBounds_toArray, List.set_cons_zero, List.set_cons_succ]
        refine readyL (rs := [10]) (by kernel_rfl) (by simp) ?_
        refine AllReadyL.cons rfl (fun K hK => ?_) AllReadyL.nil
        have hE1 := (hb1.block _ (by simp [World.drew])).trans (alloc_new wu (Obj.cells #[.int .i64 0, .int .i64 0, .int .i64 0, .slice none 0 0] 30))
        have bM := hE1
        have z0 := (cell_of_block (o := 0) bM).trans (show _ = some (.int .i64 0) from rfl)
        have z1 := (cell_of_block (o := 1) bM).trans (show _ = some (.int .i64 0) from rfl)
        have z2 := (cell_of_block (o := 2) bM).trans (show _ = some (.int .i64 0) from rfl)
        have z3 := (cell_of_block (o := 3) bM).trans (show _ = some (.slice none 0 0) from rfl)
        have yz := fun o => frozen_of_block (o := o) bM
        go_simp
        refine hK.out _ _ ?_ (fun hS5 => ?_)
        · exact ⟨trivial, fun h => absurd (h.symm.trans (show _ = true by kernel_rfl)) (by decide)⟩
        clear hK K hS4
        try simp only [Act.put, List.setIfInBounds_toArray, List.set_cons_zero, List.set_cons_succ]
        refine readyL (rs := [11]) (by kernel_rfl) (by simp) ?_
        refine AllReadyL.cons rfl (fun K hK => ?_) AllReadyL.nil
        go_simp
        refine hK.out _ _ ?_ (fun hS6 => ?_)
        · exact ⟨trivial, fun h => absurd (h.symm.trans (show _ = true by kernel_rfl)) (by decide)⟩
        clear hK K hS5
        try simp only [Act.put, List.setIfInBounds_toArray, List.set_cons_zero, List.set_cons_succ]
        refine doneL (by kernel_rfl) ?_ _
        go_wp2_with fail
        go_meet
        exact cutL_stores hE1 hO (fun x hx => by have := (fun x hx => Nat.lt_of_lt_of_le ((List.mem_append.1 hx).elim (Hha1.out.lt x) (HTB.out.lt x)) HZU.out) x hx; omega) (by simp [World.drew] at hU1 ⊢) hB1
      refine AllReadyL.cons rfl (fun K hK => ?_) AllReadyL.nil
      have hE1 := (hb1.block _ (by simp [World.drew])).trans (alloc_new wu (Obj.cells #[.int .i64 0, .int .i64 0, .int .i64 0, .slice none 0 0] 30))
      have bM := hE1
      have z0 := (cell_of_block (o := 0) bM).trans (show _ = some (.int .i64 0) from rfl)
      have z1 := (cell_of_block (o := 1) bM).trans (show _ = some (.int .i64 0) from rfl)
      have z2 := (cell_of_block (o := 2) bM).trans (show _ = some (.int .i64 0) from rfl)
      have z3 := (cell_of_block (o := 3) bM).trans (show _ = some (.slice none 0 0) from rfl)
      have yz := fun o => frozen_of_block (o := o) bM
      go_simp
      refine hK.out _ _ ?_ (fun hS4 => ?_)
      · exact ⟨trivial, fun h => absurd (h.symm.trans (show _ = true by kernel_rfl)) (by decide)⟩
      clear hK K hS3
      try simp only [Act.put, List.setIfInBounds_toArray, List.set_cons_zero, List.set_cons_succ]
      refine readyL (rs := [8]) (by kernel_rfl) (by simp) ?_
      refine AllReadyL.cons rfl (fun K hK => ?_) AllReadyL.nil
      go_simp
      refine hK.out _ _ ?_ (fun hS5 => ?_)
      · exact ⟨trivial, fun h => absurd (h.symm.trans (show _ = true by kernel_rfl)) (by decide)⟩
      clear hK K hS4
      try simp only [Act.put, List.setIfInBounds_toArray, List.set_cons_zero, List.set_cons_succ]
      refine readyL (rs := [11]) (by kernel_rfl) (by simp) ?_
      refine AllReadyL.cons rfl (fun K hK => ?_) AllReadyL.nil
      go_simp
      refine hK.out _ _ ?_ (fun hS6 => ?_)
      · exact ⟨trivial, fun h => absurd (h.symm.trans (show _ = true by kernel_rfl)) (by decide)⟩
      clear hK K hS5
      try simp only [Act.put, List.setIfInBounds_toArray, List.set_cons_zero, List.set_cons_succ]
      refine doneL (by kernel_rfl) ?_ _
      go_wp2_with fail
      go_meet
      exact cutL_stores hE1 hO (fun x hx => by have := (fun x hx => Nat.lt_of_lt_of_le ((List.mem_append.1 hx).elim (Hha1.out.lt x) (HTB.out.lt x)) HZU.out) x hx; omega) (by simp [World.drew] at hU1 ⊢) hB1
    refine AllReadyL.cons rfl (fun K hK => ?_) AllReadyL.nil
    go_simp
    refine hK.out _ _ ?_ (fun hS3 => ?_)
    · exact ⟨trivial, fun _ => HSu.out _ hB1⟩
    clear hK K hS2
    try simp only [Act.put, List.setIfInBounds_toArray, List.set_cons_zero, List.set_cons_succ]
    refine readyL (rs := [7]) (by kernel_rfl) (by simp) ?_
    refine AllReadyL.cons rfl (fun K hK => ?_) AllReadyL.nil
    go_simp
    refine hK.out _ _ ?_ (fun hS4 => ?_)
    · exact ⟨trivial, fun _ => HSu.out _ hB1⟩
    clear hK K hS3
    try simp only [Act.put, List.setIfInBounds_toArray, List.set_cons_zero, List.set_cons_succ]
    refine readyL (rs := [10]) (by kernel_rfl) (by simp) ?_
    refine AllReadyL.cons rfl (fun K hK => ?_) AllReadyL.nil
    have hE1 := (hb1.block _ (by simp [World.drew])).trans (alloc_new wu (Obj.cells #[.int .i64 0, .int .i64 0, .int .i64 0, .slice none 0 0] 30))
    have bM := hE1
    have z0 := (cell_of_block (o := 0) bM).trans (show _ = some (.int .i64 0) from rfl)
    have z1 := (cell_of_block (o := 1) bM).trans (show _ = some (.int .i64 0) from rfl)
    have z2 := (cell_of_block (o := 2) bM).trans (show _ = some (.int .i64 0) from rfl)
    have z3 := (cell_of_block (o := 3) bM).trans (show _ = some (.slice none 0 0) from rfl)
    have yz := fun o => frozen_of_block (o := o) bM
    go_simp
    refine hK.out _ _ ?_ (fun hS5 => ?_)
    · exact ⟨trivial, fun h => absurd (h.symm.trans (show _ = true by kernel_rfl)) (by decide)⟩
    clear hK K hS4
    try simp only [Act.put, List.setIfInBounds_toArray, List.set_cons_zero, List.set_cons_succ]
    refine readyL (rs := [11]) (by kernel_rfl) (by simp) ?_
    refine AllReadyL.cons rfl (fun K hK => ?_) AllReadyL.nil
    go_simp
    refine hK.out _ _ ?_ (fun hS6 => ?_)
    · exact ⟨trivial, fun h => absurd (h.symm.trans (show _ = true by kernel_rfl)) (by decide)⟩
    clear hK K hS5
    try simp only [Act.put, List.setIfInBounds_toArray, List.set_cons_zero, List.set_cons_succ]
    refine doneL (by kernel_rfl) ?_ _
    go_wp2_with fail
    go_meet
    exact cutL_stores hE1 hO (fun x hx => by have := (fun x hx => Nat.lt_of_lt_of_le ((List.mem_append.1 hx).elim (Hha1.out.lt x) (HTB.out.lt x)) HZU.out) x hx; omega) (by simp [World.drew] at hU1 ⊢) hB1
  case rest =>
  obtain ⟨bx, r, pk, pg, pl, pa, pn, pc, rfl, rfl, hr, hbx, hEx, hLx, hbz⟩ := hcut
  have hB := below_trans HBU.out hbz
  have hSS := HS0.out _ hB
  clear x0 x1 x2 x3 y0 y1 y2 y3 d0 d1 d2 d3
  obtain ⟨x0, x1, x2, x3, y0, y1, y2, y3, d0, d1, d2, d3⟩ := hSS
  have p0 : wc.cell? ⟨bx, 0, none⟩ = some (.int .i64 pk) := by rw [cell_of_block hEx]; rfl
  have p1 : wc.cell? ⟨bx, 1, none⟩ = some (.int .i64 pg) := by rw [cell_of_block hEx]; rfl
  have p2 : wc.cell? ⟨bx, 2, none⟩ = some (.int .i64 pl) := by rw [cell_of_block hEx]; rfl
  have p3 : wc.cell? ⟨bx, 3, none⟩ = some (.slice pa pn pc) := by rw [cell_of_block hEx]; rfl
  go_wp2_with fail
  refine (projectOf_any _ _ _ _ _ _ _ _).mono ?_
  rintro e w3 ⟨bq, rfl, hEq, hbq, hb3⟩
  have hB3 := below_trans hB hb3
  have HLX := hid (hLx.below hb3)
  have hR : ((cmpo n a1 (.mk kb gb lb us)).map fun c => Co.mk 5 0 la [c]).isSome = r := by rw [Option.isSome_map]; exact hr
  have hLF : Lft (fa ++ fb) Z.heap.size ((cmpo n a1 (.mk kb gb lb us)).map fun c => Co.mk 5 0 la [c]) (.agg #[.int .i64 5, .int .i64 0, .int .i64 la, .slice (some ⟨bq, 0, none⟩) 1 1]) w3 := fun c hc => by
    obtain ⟨c', hc', rfl⟩ := Option.map_eq_some_iff.1 hc
    obtain ⟨fp, hat, hfp⟩ := HLX.out c' hc'
    refine ⟨_, co_one hEq hat, fun x hx => ?_⟩
    rcases List.mem_cons.1 hx with rfl | hx
    · exact .inr (Nat.le_trans hB.size hbq)
    · rcases hfp x hx with h | h
      · rcases List.mem_append.1 h with h | h
        · exact .inl (by rw [HF.out]; simp [h])
        · exact .inl (by simp [h])
      · exact .inr (Nat.le_trans HZU.out h)
  clear hEx hLx hEq p0 p1 p2 p3
  have bM := (hB3.block (w.heap.size + 1 + 1) (by have := HZS.out; omega)).trans HBZ.out
  have z0 := (cell_of_block (o := 0) bM).trans (show _ = some (.int .i64 0) from rfl)
  have z1 := (cell_of_block (o := 1) bM).trans (show _ = some (.int .i64 0) from rfl)
  have z2 := (cell_of_block (o := 2) bM).trans (show _ = some (.int .i64 0) from rfl)
  have z3 := (cell_of_block (o := 3) bM).trans (show _ = some (.slice none 0 0) from rfl)
  have yz := fun o => frozen_of_block (o := o) bM
  have FIN := closeL (k := 5) (g := 0) (l := la) (a := (some ⟨bq, 0, none⟩)) (n := 1) (cap := 1) (w := w) (wF := w3) (M := w.heap.size + 1 + 1) (lo := Z.heap.size) (A := fa ++ fb) (o := (cmpo n a1 (.mk kb gb lb us)).map fun c => Co.mk 5 0 la [c]) (b := r) (hR) (hLF) HA.out (by omega) (by have := HZS.out; have := (hB3).size; omega) (below_trans HB0.out hB3)
  simp only [put4, Nat.zero_add] at FIN
  go_wp2_with fail
  exact bodyPost_ret (v := .tuple #[.agg #[.int .i64 5, .int .i64 0, .int .i64 la, .slice (some ⟨bq, 0, none⟩) 1 1], .bool (r)]) (by simp [results, Try.results59, go_sem, z0, z1, z2, z3]) rfl FIN
set_option maxRecDepth 100000 in
set_option maxHeartbeats 4000000 in
theorem compose_fail (ga la kb gb lb : Int) (ts us : List Co) (va vb : Value) (fa fb : List Nat) (w : World)  (hata : (Co.mk 6 ga la ts).At w va fa) (hatb : (Co.mk kb gb lb us).At w vb fb) :
    Calls Try.prog 59 #[va, vb] w (MadeL w (fa ++ fb) (some (.mk 6 ga la ts))) := by
  have HA := hid (show ∀ x ∈ fa ++ fb, x < w.heap.size from fun x hx => (List.mem_append.1 hx).elim (hata.lt x) (hatb.lt x))
  have hata0 := hata
  have hatb0 := hatb
  obtain ⟨sa, rfl, hsa⟩ := Co.at_mk.1 hata
  obtain ⟨sb, rfl, hsb⟩ := Co.at_mk.1 hatb
  obtain ⟨aa, ca, rfl⟩ := hsa.shape
  generalize hlna : ts.length = na at *
  obtain ⟨ab, cb, rfl⟩ := hsb.shape
  generalize hlnb : us.length = nb at *
  have hb0 : Below w.heap.size w (((w.alloc (Obj.cells #[.int .i64 6, .int .i64 ga, .int .i64 la, .slice aa na ca] 30)).alloc (Obj.cells #[.int .i64 kb, .int .i64 gb, .int .i64 lb, .slice ab nb cb] 30)).alloc (Obj.cells #[.int .i64 0, .int .i64 0, .int .i64 0, .slice none 0 0] 30)) := (((Below.refl _ _).alloc (Nat.le_refl _) _).alloc (by simp) _).alloc (by simp; omega) _
  have hs0 : ((((w.alloc (Obj.cells #[.int .i64 6, .int .i64 ga, .int .i64 la, .slice aa na ca] 30)).alloc (Obj.cells #[.int .i64 kb, .int .i64 gb, .int .i64 lb, .slice ab nb cb] 30)).alloc (Obj.cells #[.int .i64 0, .int .i64 0, .int .i64 0, .slice none 0 0] 30))).heap.size = w.heap.size + 1 + 1 + 1 := by simp
  obtain ⟨bA, bB, bZ⟩ := three3 (Below.refl ((((w.alloc (Obj.cells #[.int .i64 6, .int .i64 ga, .int .i64 la, .slice aa na ca] 30)).alloc (Obj.cells #[.int .i64 kb, .int .i64 gb, .int .i64 lb, .slice ab nb cb] 30)).alloc (Obj.cells #[.int .i64 0, .int .i64 0, .int .i64 0, .slice none 0 0] 30))).heap.size (((w.alloc (Obj.cells #[.int .i64 6, .int .i64 ga, .int .i64 la, .slice aa na ca] 30)).alloc (Obj.cells #[.int .i64 kb, .int .i64 gb, .int .i64 lb, .slice ab nb cb] 30)).alloc (Obj.cells #[.int .i64 0, .int .i64 0, .int .i64 0, .slice none 0 0] 30)))
  have x0 : ((((w.alloc (Obj.cells #[.int .i64 6, .int .i64 ga, .int .i64 la, .slice aa na ca] 30)).alloc (Obj.cells #[.int .i64 kb, .int .i64 gb, .int .i64 lb, .slice ab nb cb] 30)).alloc (Obj.cells #[.int .i64 0, .int .i64 0, .int .i64 0, .slice none 0 0] 30))).cell? ⟨w.heap.size, 0, none⟩ = some (.int .i64 6) := by rw [cell_of_block bA]; rfl
  have x1 : ((((w.alloc (Obj.cells #[.int .i64 6, .int .i64 ga, .int .i64 la, .slice aa na ca] 30)).alloc (Obj.cells #[.int .i64 kb, .int .i64 gb, .int .i64 lb, .slice ab nb cb] 30)).alloc (Obj.cells #[.int .i64 0, .int .i64 0, .int .i64 0, .slice none 0 0] 30))).cell? ⟨w.heap.size, 1, none⟩ = some (.int .i64 ga) := by rw [cell_of_block bA]; rfl
  have x2 : ((((w.alloc (Obj.cells #[.int .i64 6, .int .i64 ga, .int .i64 la, .slice aa na ca] 30)).alloc (Obj.cells #[.int .i64 kb, .int .i64 gb, .int .i64 lb, .slice ab nb cb] 30)).alloc (Obj.cells #[.int .i64 0, .int .i64 0, .int .i64 0, .slice none 0 0] 30))).cell? ⟨w.heap.size, 2, none⟩ = some (.int .i64 la) := by rw [cell_of_block bA]; rfl
  have x3 : ((((w.alloc (Obj.cells #[.int .i64 6, .int .i64 ga, .int .i64 la, .slice aa na ca] 30)).alloc (Obj.cells #[.int .i64 kb, .int .i64 gb, .int .i64 lb, .slice ab nb cb] 30)).alloc (Obj.cells #[.int .i64 0, .int .i64 0, .int .i64 0, .slice none 0 0] 30))).cell? ⟨w.heap.size, 3, none⟩ = some (.slice aa na ca) := by rw [cell_of_block bA]; rfl
  have y0 : ((((w.alloc (Obj.cells #[.int .i64 6, .int .i64 ga, .int .i64 la, .slice aa na ca] 30)).alloc (Obj.cells #[.int .i64 kb, .int .i64 gb, .int .i64 lb, .slice ab nb cb] 30)).alloc (Obj.cells #[.int .i64 0, .int .i64 0, .int .i64 0, .slice none 0 0] 30))).cell? ⟨w.heap.size + 1, 0, none⟩ = some (.int .i64 kb) := by rw [cell_of_block bB]; rfl
  have y1 : ((((w.alloc (Obj.cells #[.int .i64 6, .int .i64 ga, .int .i64 la, .slice aa na ca] 30)).alloc (Obj.cells #[.int .i64 kb, .int .i64 gb, .int .i64 lb, .slice ab nb cb] 30)).alloc (Obj.cells #[.int .i64 0, .int .i64 0, .int .i64 0, .slice none 0 0] 30))).cell? ⟨w.heap.size + 1, 1, none⟩ = some (.int .i64 gb) := by rw [cell_of_block bB]; rfl
  have y2 : ((((w.alloc (Obj.cells #[.int .i64 6, .int .i64 ga, .int .i64 la, .slice aa na ca] 30)).alloc (Obj.cells #[.int .i64 kb, .int .i64 gb, .int .i64 lb, .slice ab nb cb] 30)).alloc (Obj.cells #[.int .i64 0, .int .i64 0, .int .i64 0, .slice none 0 0] 30))).cell? ⟨w.heap.size + 1, 2, none⟩ = some (.int .i64 lb) := by rw [cell_of_block bB]; rfl
  have y3 : ((((w.alloc (Obj.cells #[.int .i64 6, .int .i64 ga, .int .i64 la, .slice aa na ca] 30)).alloc (Obj.cells #[.int .i64 kb, .int .i64 gb, .int .i64 lb, .slice ab nb cb] 30)).alloc (Obj.cells #[.int .i64 0, .int .i64 0, .int .i64 0, .slice none 0 0] 30))).cell? ⟨w.heap.size + 1, 3, none⟩ = some (.slice ab nb cb) := by rw [cell_of_block bB]; rfl
  have HB0 := hid hb0
  have HTA0 := hid hata0
  have HTB0 := hid hatb0
  have HBZ := hid bZ
  have HTA := hid (hata0.below hb0)
  have HTB := hid (hatb0.below hb0)
  obtain ⟨Z, hZd⟩ : ∃ Z, Z = (((w.alloc (Obj.cells #[.int .i64 6, .int .i64 ga, .int .i64 la, .slice aa na ca] 30)).alloc (Obj.cells #[.int .i64 kb, .int .i64 gb, .int .i64 lb, .slice ab nb cb] 30)).alloc (Obj.cells #[.int .i64 0, .int .i64 0, .int .i64 0, .slice none 0 0] 30)) := ⟨_, rfl⟩
  rw [← hZd] at hb0 hs0 HB0 HBZ HTA HTB  x0 x1 x2 x3 y0 y1 y2 y3
  have HZS := hid hs0
  have HS0 := hid (show ∀ w', Below Z.heap.size Z w' → (fun w' => w'.cell? ⟨w.heap.size, 0, none⟩ = some (.int .i64 6) ∧ w'.cell? ⟨w.heap.size, 1, none⟩ = some (.int .i64 ga) ∧ w'.cell? ⟨w.heap.size, 2, none⟩ = some (.int .i64 la) ∧ w'.cell? ⟨w.heap.size, 3, none⟩ = some (.slice aa na ca) ∧ w'.cell? ⟨w.heap.size + 1, 0, none⟩ = some (.int .i64 kb) ∧ w'.cell? ⟨w.heap.size + 1, 1, none⟩ = some (.int .i64 gb) ∧ w'.cell? ⟨w.heap.size + 1, 2, none⟩ = some (.int .i64 lb) ∧ w'.cell? ⟨w.heap.size + 1, 3, none⟩ = some (.slice ab nb cb)) w' from fun w' h => ⟨cell_keep x0 h, cell_keep x1 h, cell_keep x2 h, cell_keep x3 h, cell_keep y0 h, cell_keep y1 h, cell_keep y2 h, cell_keep y3 h⟩)
  have HZD := hid hZd
  clear hb0 hs0 bA bB bZ hata hatb hata0 hatb0 hsa hsb hZd 
  have hu1 : ((6 : Int) == 1 && ga == 1) = false := rfl
  have HU := hid (isUnknownId_any _ _ _ Z HTA.out)
  rw [uid_mk, hu1] at HU
  clear hu1
  go_enter Try.func59, Try.ntmps59
  go_wp2_with fail
  rw [← HZD.out]
  refine HU.out.mono ?_
  rintro e wu ⟨rfl, hbu⟩
  have hSS := HS0.out _ hbu
  clear x0 x1 x2 x3 y0 y1 y2 y3
  obtain ⟨x0, x1, x2, x3, y0, y1, y2, y3⟩ := hSS
  have HBU := hid hbu
  have HSu := hid (show ∀ w', Below wu.heap.size wu w' → (fun w' => w'.cell? ⟨w.heap.size, 0, none⟩ = some (.int .i64 6) ∧ w'.cell? ⟨w.heap.size, 1, none⟩ = some (.int .i64 ga) ∧ w'.cell? ⟨w.heap.size, 2, none⟩ = some (.int .i64 la) ∧ w'.cell? ⟨w.heap.size, 3, none⟩ = some (.slice aa na ca) ∧ w'.cell? ⟨w.heap.size + 1, 0, none⟩ = some (.int .i64 kb) ∧ w'.cell? ⟨w.heap.size + 1, 1, none⟩ = some (.int .i64 gb) ∧ w'.cell? ⟨w.heap.size + 1, 2, none⟩ = some (.int .i64 lb) ∧ w'.cell? ⟨w.heap.size + 1, 3, none⟩ = some (.slice ab nb cb)) w' from fun w' h => HS0.out _ (below_trans hbu h))
  have HZU := hid hbu.size
  clear hbu
  have bM := (HBU.out.block (w.heap.size + 1 + 1) (by have := HZS.out; omega)).trans HBZ.out
  have z0 := (cell_of_block (o := 0) bM).trans (show _ = some (.int .i64 0) from rfl)
  have z1 := (cell_of_block (o := 1) bM).trans (show _ = some (.int .i64 0) from rfl)
  have z2 := (cell_of_block (o := 2) bM).trans (show _ = some (.int .i64 0) from rfl)
  have z3 := (cell_of_block (o := 3) bM).trans (show _ = some (.slice none 0 0) from rfl)
  have yz := fun o => frozen_of_block (o := o) bM
  go_wp2_with fail
  have FIN := closeL (k := 6) (g := ga) (l := la) (a := aa) (n := na) (cap := ca) (w := w) (wF := wu) (M := w.heap.size + 1 + 1) (lo := wu.heap.size) (A := fa ++ fb) (o := some (.mk 6 ga la ts)) (b := true) (rfl) (fun c hc => ⟨fa, by cases hc; exact HTA.out.below HBU.out, fun x hx => .inl (by simp [hx])⟩) HA.out (by omega) (by have := HZS.out; have := (HBU.out).size; have := HBU.out.size; omega) (below_trans HB0.out HBU.out)
  simp only [put4, Nat.zero_add] at FIN
  exact bodyPost_ret (v := .tuple #[.agg #[.int .i64 6, .int .i64 ga, .int .i64 la, .slice aa na ca], .bool true]) (by simp [results, Try.results59, go_sem, z0, z1, z2, z3]) rfl FIN
set_option maxRecDepth 100000 in
set_option maxHeartbeats 4000000 in
theorem compose_ip (n : Nat) (ih : AcC n) (ga la gb lb : Int) (a1 b1 : Co) (d d' : Nat) (va vb : Value) (fa fb : List Nat) (w : World) (hd : d + d' ≤ n) (hd1 : d ≤ 9) (hd2 : d' ≤ 9) (hs1 : shpK d a1 = true) (hs2 : shpK d' b1 = true) (hata : (Co.mk 4 ga la [a1]).At w va fa) (hatb : (Co.mk 5 gb lb [b1]).At w vb fb) :
    Calls Try.prog 59 #[va, vb] w (MadeL w (fa ++ fb) (cmpo (n + 1) (.mk 4 ga la [a1]) (.mk 5 gb lb [b1]))) := by
  have HA := hid (show ∀ x ∈ fa ++ fb, x < w.heap.size from fun x hx => (List.mem_append.1 hx).elim (hata.lt x) (hatb.lt x))
  have hata0 := hata
  have hatb0 := hatb
  obtain ⟨sa, rfl, hsa⟩ := Co.at_mk.1 hata
  obtain ⟨sb, rfl, hsb⟩ := Co.at_mk.1 hatb
  obtain ⟨ba, oa, ca, ka1, ga1, la1, na1, aa1, ca1, fa1, rfl, hba, d0, d1, d2, d3, ha1, hfa, _⟩ := hsa.one
  obtain ⟨bb, ob, cb, kb1, gb1, lb1, nb1, ab1, cb1, fb1, rfl, hbb, e0, e1, e2, e3, hb1, hfb, _⟩ := hsb.one
  have hb0 : Below w.heap.size w (((w.alloc (Obj.cells #[.int .i64 4, .int .i64 ga, .int .i64 la, .slice (some ⟨ba, oa, none⟩) 1 ca] 30)).alloc (Obj.cells #[.int .i64 5, .int .i64 gb, .int .i64 lb, .slice (some ⟨bb, ob, none⟩) 1 cb] 30)).alloc (Obj.cells #[.int .i64 0, .int .i64 0, .int .i64 0, .slice none 0 0] 30)) := (((Below.refl _ _).alloc (Nat.le_refl _) _).alloc (by simp) _).alloc (by simp; omega) _
  have hs0 : ((((w.alloc (Obj.cells #[.int .i64 4, .int .i64 ga, .int .i64 la, .slice (some ⟨ba, oa, none⟩) 1 ca] 30)).alloc (Obj.cells #[.int .i64 5, .int .i64 gb, .int .i64 lb, .slice (some ⟨bb, ob, none⟩) 1 cb] 30)).alloc (Obj.cells #[.int .i64 0, .int .i64 0, .int .i64 0, .slice none 0 0] 30))).heap.size = w.heap.size + 1 + 1 + 1 := by simp
  obtain ⟨bA, bB, bZ⟩ := three3 (Below.refl ((((w.alloc (Obj.cells #[.int .i64 4, .int .i64 ga, .int .i64 la, .slice (some ⟨ba, oa, none⟩) 1 ca] 30)).alloc (Obj.cells #[.int .i64 5, .int .i64 gb, .int .i64 lb, .slice (some ⟨bb, ob, none⟩) 1 cb] 30)).alloc (Obj.cells #[.int .i64 0, .int .i64 0, .int .i64 0, .slice none 0 0] 30))).heap.size (((w.alloc (Obj.cells #[.int .i64 4, .int .i64 ga, .int .i64 la, .slice (some ⟨ba, oa, none⟩) 1 ca] 30)).alloc (Obj.cells #[.int .i64 5, .int .i64 gb, .int .i64 lb, .slice (some ⟨bb, ob, none⟩) 1 cb] 30)).alloc (Obj.cells #[.int .i64 0, .int .i64 0, .int .i64 0, .slice none 0 0] 30)))
  have x0 : ((((w.alloc (Obj.cells #[.int .i64 4, .int .i64 ga, .int .i64 la, .slice (some ⟨ba, oa, none⟩) 1 ca] 30)).alloc (Obj.cells #[.int .i64 5, .int .i64 gb, .int .i64 lb, .slice (some ⟨bb, ob, none⟩) 1 cb] 30)).alloc (Obj.cells #[.int .i64 0, .int .i64 0, .int .i64 0, .slice none 0 0] 30))).cell? ⟨w.heap.size, 0, none⟩ = some (.int .i64 4) := by rw [cell_of_block bA]; rfl
  have x1 : ((((w.alloc (Obj.cells #[.int .i64 4, .int .i64 ga, .int .i64 la, .slice (some ⟨ba, oa, none⟩) 1 ca] 30)).alloc (Obj.cells #[.int .i64 5, .int .i64 gb, .int .i64 lb, .slice (some ⟨bb, ob, none⟩) 1 cb] 30)).alloc (Obj.cells #[.int .i64 0, .int .i64 0, .int .i64 0, .slice none 0 0] 30))).cell? ⟨w.heap.size, 1, none⟩ = some (.int .i64 ga) := by rw [cell_of_block bA]; rfl
  have x2 : ((((w.alloc (Obj.cells #[.int .i64 4, .int .i64 ga, .int .i64 la, .slice (some ⟨ba, oa, none⟩) 1 ca] 30)).alloc (Obj.cells #[.int .i64 5, .int .i64 gb, .int .i64 lb, .slice (some ⟨bb, ob, none⟩) 1 cb] 30)).alloc (Obj.cells #[.int .i64 0, .int .i64 0, .int .i64 0, .slice none 0 0] 30))).cell? ⟨w.heap.size, 2, none⟩ = some (.int .i64 la) := by rw [cell_of_block bA]; rfl
  have x3 : ((((w.alloc (Obj.cells #[.int .i64 4, .int .i64 ga, .int .i64 la, .slice (some ⟨ba, oa, none⟩) 1 ca] 30)).alloc (Obj.cells #[.int .i64 5, .int .i64 gb, .int .i64 lb, .slice (some ⟨bb, ob, none⟩) 1 cb] 30)).alloc (Obj.cells #[.int .i64 0, .int .i64 0, .int .i64 0, .slice none 0 0] 30))).cell? ⟨w.heap.size, 3, none⟩ = some (.slice (some ⟨ba, oa, none⟩) 1 ca) := by rw [cell_of_block bA]; rfl
  have y0 : ((((w.alloc (Obj.cells #[.int .i64 4, .int .i64 ga, .int .i64 la, .slice (some ⟨ba, oa, none⟩) 1 ca] 30)).alloc (Obj.cells #[.int .i64 5, .int .i64 gb, .int .i64 lb, .slice (some ⟨bb, ob, none⟩) 1 cb] 30)).alloc (Obj.cells #[.int .i64 0, .int .i64 0, .int .i64 0, .slice none 0 0] 30))).cell? ⟨w.heap.size + 1, 0, none⟩ = some (.int .i64 5) := by rw [cell_of_block bB]; rfl
  have y1 : ((((w.alloc (Obj.cells #[.int .i64 4, .int .i64 ga, .int .i64 la, .slice (some ⟨ba, oa, none⟩) 1 ca] 30)).alloc (Obj.cells #[.int .i64 5, .int .i64 gb, .int .i64 lb, .slice (some ⟨bb, ob, none⟩) 1 cb] 30)).alloc (Obj.cells #[.int .i64 0, .int .i64 0, .int .i64 0, .slice none 0 0] 30))).cell? ⟨w.heap.size + 1, 1, none⟩ = some (.int .i64 gb) := by rw [cell_of_block bB]; rfl
  have y2 : ((((w.alloc (Obj.cells #[.int .i64 4, .int .i64 ga, .int .i64 la, .slice (some ⟨ba, oa, none⟩) 1 ca] 30)).alloc (Obj.cells #[.int .i64 5, .int .i64 gb, .int .i64 lb, .slice (some ⟨bb, ob, none⟩) 1 cb] 30)).alloc (Obj.cells #[.int .i64 0, .int .i64 0, .int .i64 0, .slice none 0 0] 30))).cell? ⟨w.heap.size + 1, 2, none⟩ = some (.int .i64 lb) := by rw [cell_of_block bB]; rfl
  have y3 : ((((w.alloc (Obj.cells #[.int .i64 4, .int .i64 ga, .int .i64 la, .slice (some ⟨ba, oa, none⟩) 1 ca] 30)).alloc (Obj.cells #[.int .i64 5, .int .i64 gb, .int .i64 lb, .slice (some ⟨bb, ob, none⟩) 1 cb] 30)).alloc (Obj.cells #[.int .i64 0, .int .i64 0, .int .i64 0, .slice none 0 0] 30))).cell? ⟨w.heap.size + 1, 3, none⟩ = some (.slice (some ⟨bb, ob, none⟩) 1 cb) := by rw [cell_of_block bB]; rfl
  replace d0 := cell_keep d0 hb0
  replace d1 := cell_keep d1 hb0
  replace d2 := cell_keep d2 hb0
  replace d3 := cell_keep d3 hb0
  replace e0 := cell_keep e0 hb0
  replace e1 := cell_keep e1 hb0
  replace e2 := cell_keep e2 hb0
  replace e3 := cell_keep e3 hb0
  have HB0 := hid hb0
  have HTA0 := hid hata0
  have HTB0 := hid hatb0
  have HBZ := hid bZ
  have HTA := hid (hata0.below hb0)
  have HTB := hid (hatb0.below hb0)
  have Hha1 := hid (ha1.below hb0)
  have Hhb1 := hid (hb1.below hb0)
  obtain ⟨Z, hZd⟩ : ∃ Z, Z = (((w.alloc (Obj.cells #[.int .i64 4, .int .i64 ga, .int .i64 la, .slice (some ⟨ba, oa, none⟩) 1 ca] 30)).alloc (Obj.cells #[.int .i64 5, .int .i64 gb, .int .i64 lb, .slice (some ⟨bb, ob, none⟩) 1 cb] 30)).alloc (Obj.cells #[.int .i64 0, .int .i64 0, .int .i64 0, .slice none 0 0] 30)) := ⟨_, rfl⟩
  rw [← hZd] at hb0 hs0 HB0 HBZ HTA HTB Hha1 Hhb1 x0 x1 x2 x3 y0 y1 y2 y3 d0 d1 d2 d3 e0 e1 e2 e3
  have HZS := hid hs0
  have HS0 := hid (show ∀ w', Below Z.heap.size Z w' → (fun w' => w'.cell? ⟨w.heap.size, 0, none⟩ = some (.int .i64 4) ∧ w'.cell? ⟨w.heap.size, 1, none⟩ = some (.int .i64 ga) ∧ w'.cell? ⟨w.heap.size, 2, none⟩ = some (.int .i64 la) ∧ w'.cell? ⟨w.heap.size, 3, none⟩ = some (.slice (some ⟨ba, oa, none⟩) 1 ca) ∧ w'.cell? ⟨w.heap.size + 1, 0, none⟩ = some (.int .i64 5) ∧ w'.cell? ⟨w.heap.size + 1, 1, none⟩ = some (.int .i64 gb) ∧ w'.cell? ⟨w.heap.size + 1, 2, none⟩ = some (.int .i64 lb) ∧ w'.cell? ⟨w.heap.size + 1, 3, none⟩ = some (.slice (some ⟨bb, ob, none⟩) 1 cb) ∧ w'.cell? ⟨ba, oa, none⟩ = some (.int .i64 ka1) ∧ w'.cell? ⟨ba, oa + 1, none⟩ = some (.int .i64 ga1) ∧ w'.cell? ⟨ba, oa + 2, none⟩ = some (.int .i64 la1) ∧ w'.cell? ⟨ba, oa + 3, none⟩ = some (.slice aa1 na1 ca1) ∧ w'.cell? ⟨bb, ob, none⟩ = some (.int .i64 kb1) ∧ w'.cell? ⟨bb, ob + 1, none⟩ = some (.int .i64 gb1) ∧ w'.cell? ⟨bb, ob + 2, none⟩ = some (.int .i64 lb1) ∧ w'.cell? ⟨bb, ob + 3, none⟩ = some (.slice ab1 nb1 cb1)) w' from fun w' h => ⟨cell_keep x0 h, cell_keep x1 h, cell_keep x2 h, cell_keep x3 h, cell_keep y0 h, cell_keep y1 h, cell_keep y2 h, cell_keep y3 h, cell_keep d0 h, cell_keep d1 h, cell_keep d2 h, cell_keep d3 h, cell_keep e0 h, cell_keep e1 h, cell_keep e2 h, cell_keep e3 h⟩)
  have HZD := hid hZd
  clear hb0 hs0 bA bB bZ hata hatb hata0 hatb0 hsa hsb hZd ha1 hb1
  have HX := hid (fun (w' : World) (h : Below Z.heap.size Z w') => ih ga la gb lb a1 b1 d d' _ _ fa fb w' hd hd1 hd2 hs1 hs2 (HTA.out.below h) (HTB.out.below h))
  generalize cmpo (n + 1) (.mk 4 ga la [a1]) (.mk 5 gb lb [b1]) = o at *
  have hu1 : ((4 : Int) == 1 && ga == 1) = false := rfl
  clear hd hd1 hd2 hs1 hs2 ih hfa hfb
  have HU := hid (isUnknownId_any _ _ _ Z HTA.out)
  rw [uid_mk, hu1] at HU
  clear hu1
  go_enter Try.func59, Try.ntmps59
  go_wp2_with fail
  rw [← HZD.out]
  refine HU.out.mono ?_
  rintro e wu ⟨rfl, hbu⟩
  have hSS := HS0.out _ hbu
  clear x0 x1 x2 x3 y0 y1 y2 y3 d0 d1 d2 d3 e0 e1 e2 e3
  obtain ⟨x0, x1, x2, x3, y0, y1, y2, y3, d0, d1, d2, d3, e0, e1, e2, e3⟩ := hSS
  have HBU := hid hbu
  have HSu := hid (show ∀ w', Below wu.heap.size wu w' → (fun w' => w'.cell? ⟨w.heap.size, 0, none⟩ = some (.int .i64 4) ∧ w'.cell? ⟨w.heap.size, 1, none⟩ = some (.int .i64 ga) ∧ w'.cell? ⟨w.heap.size, 2, none⟩ = some (.int .i64 la) ∧ w'.cell? ⟨w.heap.size, 3, none⟩ = some (.slice (some ⟨ba, oa, none⟩) 1 ca) ∧ w'.cell? ⟨w.heap.size + 1, 0, none⟩ = some (.int .i64 5) ∧ w'.cell? ⟨w.heap.size + 1, 1, none⟩ = some (.int .i64 gb) ∧ w'.cell? ⟨w.heap.size + 1, 2, none⟩ = some (.int .i64 lb) ∧ w'.cell? ⟨w.heap.size + 1, 3, none⟩ = some (.slice (some ⟨bb, ob, none⟩) 1 cb) ∧ w'.cell? ⟨ba, oa, none⟩ = some (.int .i64 ka1) ∧ w'.cell? ⟨ba, oa + 1, none⟩ = some (.int .i64 ga1) ∧ w'.cell? ⟨ba, oa + 2, none⟩ = some (.int .i64 la1) ∧ w'.cell? ⟨ba, oa + 3, none⟩ = some (.slice aa1 na1 ca1) ∧ w'.cell? ⟨bb, ob, none⟩ = some (.int .i64 kb1) ∧ w'.cell? ⟨bb, ob + 1, none⟩ = some (.int .i64 gb1) ∧ w'.cell? ⟨bb, ob + 2, none⟩ = some (.int .i64 lb1) ∧ w'.cell? ⟨bb, ob + 3, none⟩ = some (.slice ab1 nb1 cb1)) w' from fun w' h => HS0.out _ (below_trans hbu h))
  have HZU := hid hbu.size
  clear hbu
  go_wp2_with fail
  refine (HX.out _ HBU.out).mono ?_
  rintro e w1 ⟨pk, pg, pl, pa, pn, pc, rfl, hb1, hL⟩
  have hB1 := below_trans HBU.out hb1
  have hUS := HBU.out.size
  generalize hr : o.isSome = r at *
  have bM := (hB1.block (w.heap.size + 1 + 1) (by have := HZS.out; omega)).trans HBZ.out
  have z0 := (cell_of_block (o := 0) bM).trans (show _ = some (.int .i64 0) from rfl)
  have z1 := (cell_of_block (o := 1) bM).trans (show _ = some (.int .i64 0) from rfl)
  have z2 := (cell_of_block (o := 2) bM).trans (show _ = some (.int .i64 0) from rfl)
  have z3 := (cell_of_block (o := 3) bM).trans (show _ = some (.slice none 0 0) from rfl)
  have yz := fun o => frozen_of_block (o := o) bM
  have FIN := closeL (k := pk) (g := pg) (l := pl) (a := pa) (n := pn) (cap := pc) (w := w) (wF := w1) (M := w.heap.size + 1 + 1) (lo := wu.heap.size) (A := fa ++ fb) (o := o) (b := r) (hr) (hL) HA.out (by omega) (by have := HZS.out; have := (hB1).size; have := HBU.out.size; omega) (below_trans HB0.out hB1)
  simp only [put4, Nat.zero_add] at FIN
  go_wp2_with fail
  exact bodyPost_ret (v := .tuple #[.agg #[.int .i64 pk, .int .i64 pg, .int .i64 pl, .slice pa pn pc], .bool (r)]) (by simp [results, Try.results59, go_sem, z0, z1, z2, z3]) rfl FIN
set_option maxRecDepth 100000 in
set_option maxHeartbeats 4000000 in
theorem compose_inj (ga la kb gb lb : Int) (ts us : List Co) (o : Option Co) (va vb : Value) (fa fb : List Nat) (w : World) (h5 : (kb == 5) = false) (ho : o = if kb = 1 ∧ gb = 1 then some (.mk 4 ga la ts) else none) (hata : (Co.mk 4 ga la ts).At w va fa) (hatb : (Co.mk kb gb lb us).At w vb fb) :
    Calls Try.prog 59 #[va, vb] w (MadeL w (fa ++ fb) (o)) := by
  have HA := hid (show ∀ x ∈ fa ++ fb, x < w.heap.size from fun x hx => (List.mem_append.1 hx).elim (hata.lt x) (hatb.lt x))
  have hata0 := hata
  have hatb0 := hatb
  obtain ⟨sa, rfl, hsa⟩ := Co.at_mk.1 hata
  obtain ⟨sb, rfl, hsb⟩ := Co.at_mk.1 hatb
  obtain ⟨aa, ca, rfl⟩ := hsa.shape
  generalize hlna : ts.length = na at *
  obtain ⟨ab, cb, rfl⟩ := hsb.shape
  generalize hlnb : us.length = nb at *
  have hb0 : Below w.heap.size w (((w.alloc (Obj.cells #[.int .i64 4, .int .i64 ga, .int .i64 la, .slice aa na ca] 30)).alloc (Obj.cells #[.int .i64 kb, .int .i64 gb, .int .i64 lb, .slice ab nb cb] 30)).alloc (Obj.cells #[.int .i64 0, .int .i64 0, .int .i64 0, .slice none 0 0] 30)) := (((Below.refl _ _).alloc (Nat.le_refl _) _).alloc (by simp) _).alloc (by simp; omega) _
  have hs0 : ((((w.alloc (Obj.cells #[.int .i64 4, .int .i64 ga, .int .i64 la, .slice aa na ca] 30)).alloc (Obj.cells #[.int .i64 kb, .int .i64 gb, .int .i64 lb, .slice ab nb cb] 30)).alloc (Obj.cells #[.int .i64 0, .int .i64 0, .int .i64 0, .slice none 0 0] 30))).heap.size = w.heap.size + 1 + 1 + 1 := by simp
  obtain ⟨bA, bB, bZ⟩ := three3 (Below.refl ((((w.alloc (Obj.cells #[.int .i64 4, .int .i64 ga, .int .i64 la, .slice aa na ca] 30)).alloc (Obj.cells #[.int .i64 kb, .int .i64 gb, .int .i64 lb, .slice ab nb cb] 30)).alloc (Obj.cells #[.int .i64 0, .int .i64 0, .int .i64 0, .slice none 0 0] 30))).heap.size (((w.alloc (Obj.cells #[.int .i64 4, .int .i64 ga, .int .i64 la, .slice aa na ca] 30)).alloc (Obj.cells #[.int .i64 kb, .int .i64 gb, .int .i64 lb, .slice ab nb cb] 30)).alloc (Obj.cells #[.int .i64 0, .int .i64 0, .int .i64 0, .slice none 0 0] 30)))
  have x0 : ((((w.alloc (Obj.cells #[.int .i64 4, .int .i64 ga, .int .i64 la, .slice aa na ca] 30)).alloc (Obj.cells #[.int .i64 kb, .int .i64 gb, .int .i64 lb, .slice ab nb cb] 30)).alloc (Obj.cells #[.int .i64 0, .int .i64 0, .int .i64 0, .slice none 0 0] 30))).cell? ⟨w.heap.size, 0, none⟩ = some (.int .i64 4) := by rw [cell_of_block bA]; rfl
  have x1 : ((((w.alloc (Obj.cells #[.int .i64 4, .int .i64 ga, .int .i64 la, .slice aa na ca] 30)).alloc (Obj.cells #[.int .i64 kb, .int .i64 gb, .int .i64 lb, .slice ab nb cb] 30)).alloc (Obj.cells #[.int .i64 0, .int .i64 0, .int .i64 0, .slice none 0 0] 30))).cell? ⟨w.heap.size, 1, none⟩ = some (.int .i64 ga) := by rw [cell_of_block bA]; rfl
  have x2 : ((((w.alloc (Obj.cells #[.int .i64 4, .int .i64 ga, .int .i64 la, .slice aa na ca] 30)).alloc (Obj.cells #[.int .i64 kb, .int .i64 gb, .int .i64 lb, .slice ab nb cb] 30)).alloc (Obj.cells #[.int .i64 0, .int .i64 0, .int .i64 0, .slice none 0 0] 30))).cell? ⟨w.heap.size, 2, none⟩ = some (.int .i64 la) := by rw [cell_of_block bA]; rfl
  have x3 : ((((w.alloc (Obj.cells #[.int .i64 4, .int .i64 ga, .int .i64 la, .slice aa na ca] 30)).alloc (Obj.cells #[.int .i64 kb, .int .i64 gb, .int .i64 lb, .slice ab nb cb] 30)).alloc (Obj.cells #[.int .i64 0, .int .i64 0, .int .i64 0, .slice none 0 0] 30))).cell? ⟨w.heap.size, 3, none⟩ = some (.slice aa na ca) := by rw [cell_of_block bA]; rfl
  have y0 : ((((w.alloc (Obj.cells #[.int .i64 4, .int .i64 ga, .int .i64 la, .slice aa na ca] 30)).alloc (Obj.cells #[.int .i64 kb, .int .i64 gb, .int .i64 lb, .slice ab nb cb] 30)).alloc (Obj.cells #[.int .i64 0, .int .i64 0, .int .i64 0, .slice none 0 0] 30))).cell? ⟨w.heap.size + 1, 0, none⟩ = some (.int .i64 kb) := by rw [cell_of_block bB]; rfl
  have y1 : ((((w.alloc (Obj.cells #[.int .i64 4, .int .i64 ga, .int .i64 la, .slice aa na ca] 30)).alloc (Obj.cells #[.int .i64 kb, .int .i64 gb, .int .i64 lb, .slice ab nb cb] 30)).alloc (Obj.cells #[.int .i64 0, .int .i64 0, .int .i64 0, .slice none 0 0] 30))).cell? ⟨w.heap.size + 1, 1, none⟩ = some (.int .i64 gb) := by rw [cell_of_block bB]; rfl
  have y2 : ((((w.alloc (Obj.cells #[.int .i64 4, .int .i64 ga, .int .i64 la, .slice aa na ca] 30)).alloc (Obj.cells #[.int .i64 kb, .int .i64 gb, .int .i64 lb, .slice ab nb cb] 30)).alloc (Obj.cells #[.int .i64 0, .int .i64 0, .int .i64 0, .slice none 0 0] 30))).cell? ⟨w.heap.size + 1, 2, none⟩ = some (.int .i64 lb) := by rw [cell_of_block bB]; rfl
  have y3 : ((((w.alloc (Obj.cells #[.int .i64 4, .int .i64 ga, .int .i64 la, .slice aa na ca] 30)).alloc (Obj.cells #[.int .i64 kb, .int .i64 gb, .int .i64 lb, .slice ab nb cb] 30)).alloc (Obj.cells #[.int .i64 0, .int .i64 0, .int .i64 0, .slice none 0 0] 30))).cell? ⟨w.heap.size + 1, 3, none⟩ = some (.slice ab nb cb) := by rw [cell_of_block bB]; rfl
  have HB0 := hid hb0
  have HTA0 := hid hata0
  have HTB0 := hid hatb0
  have HBZ := hid bZ
  have HTA := hid (hata0.below hb0)
  have HTB := hid (hatb0.below hb0)
  obtain ⟨Z, hZd⟩ : ∃ Z, Z = (((w.alloc (Obj.cells #[.int .i64 4, .int .i64 ga, .int .i64 la, .slice aa na ca] 30)).alloc (Obj.cells #[.int .i64 kb, .int .i64 gb, .int .i64 lb, .slice ab nb cb] 30)).alloc (Obj.cells #[.int .i64 0, .int .i64 0, .int .i64 0, .slice none 0 0] 30)) := ⟨_, rfl⟩
  rw [← hZd] at hb0 hs0 HB0 HBZ HTA HTB  x0 x1 x2 x3 y0 y1 y2 y3
  have HZS := hid hs0
  have HS0 := hid (show ∀ w', Below Z.heap.size Z w' → (fun w' => w'.cell? ⟨w.heap.size, 0, none⟩ = some (.int .i64 4) ∧ w'.cell? ⟨w.heap.size, 1, none⟩ = some (.int .i64 ga) ∧ w'.cell? ⟨w.heap.size, 2, none⟩ = some (.int .i64 la) ∧ w'.cell? ⟨w.heap.size, 3, none⟩ = some (.slice aa na ca) ∧ w'.cell? ⟨w.heap.size + 1, 0, none⟩ = some (.int .i64 kb) ∧ w'.cell? ⟨w.heap.size + 1, 1, none⟩ = some (.int .i64 gb) ∧ w'.cell? ⟨w.heap.size + 1, 2, none⟩ = some (.int .i64 lb) ∧ w'.cell? ⟨w.heap.size + 1, 3, none⟩ = some (.slice ab nb cb)) w' from fun w' h => ⟨cell_keep x0 h, cell_keep x1 h, cell_keep x2 h, cell_keep x3 h, cell_keep y0 h, cell_keep y1 h, cell_keep y2 h, cell_keep y3 h⟩)
  have HZD := hid hZd
  clear hb0 hs0 bA bB bZ hata hatb hata0 hatb0 hsa hsb hZd 
  have hu1 : ((4 : Int) == 1 && ga == 1) = false := rfl
  have HO := hid ho
  clear ho
  have HR := hid (show o.isSome = uidC (.mk kb gb lb us) by rw [HO.out]; simp only [uidC]; by_cases h1 : kb = 1 <;> by_cases h2 : gb = 1 <;> simp [h1, h2])
  have HU := hid (isUnknownId_any _ _ _ Z HTA.out)
  rw [uid_mk, hu1] at HU
  clear hu1
  go_enter Try.func59, Try.ntmps59
  go_wp2_with fail
  rw [← HZD.out]
  refine HU.out.mono ?_
  rintro e wu ⟨rfl, hbu⟩
  have hSS := HS0.out _ hbu
  clear x0 x1 x2 x3 y0 y1 y2 y3
  obtain ⟨x0, x1, x2, x3, y0, y1, y2, y3⟩ := hSS
  have HBU := hid hbu
  have HSu := hid (show ∀ w', Below wu.heap.size wu w' → (fun w' => w'.cell? ⟨w.heap.size, 0, none⟩ = some (.int .i64 4) ∧ w'.cell? ⟨w.heap.size, 1, none⟩ = some (.int .i64 ga) ∧ w'.cell? ⟨w.heap.size, 2, none⟩ = some (.int .i64 la) ∧ w'.cell? ⟨w.heap.size, 3, none⟩ = some (.slice aa na ca) ∧ w'.cell? ⟨w.heap.size + 1, 0, none⟩ = some (.int .i64 kb) ∧ w'.cell? ⟨w.heap.size + 1, 1, none⟩ = some (.int .i64 gb) ∧ w'.cell? ⟨w.heap.size + 1, 2, none⟩ = some (.int .i64 lb) ∧ w'.cell? ⟨w.heap.size + 1, 3, none⟩ = some (.slice ab nb cb)) w' from fun w' h => HS0.out _ (below_trans hbu h))
  have HZU := hid hbu.size
  clear hbu
  go_wp2_with fail
  refine regionL (s := 3) (S0 := (fun w' => w'.cell? ⟨w.heap.size, 0, none⟩ = some (.int .i64 4) ∧ w'.cell? ⟨w.heap.size, 1, none⟩ = some (.int .i64 ga) ∧ w'.cell? ⟨w.heap.size, 2, none⟩ = some (.int .i64 la) ∧ w'.cell? ⟨w.heap.size, 3, none⟩ = some (.slice aa na ca) ∧ w'.cell? ⟨w.heap.size + 1, 0, none⟩ = some (.int .i64 kb) ∧ w'.cell? ⟨w.heap.size + 1, 1, none⟩ = some (.int .i64 gb) ∧ w'.cell? ⟨w.heap.size + 1, 2, none⟩ = some (.int .i64 lb) ∧ w'.cell? ⟨w.heap.size + 1, 3, none⟩ = some (.slice ab nb cb))) (S1 := (fun w' => w'.cell? ⟨w.heap.size, 0, none⟩ = some (.int .i64 4) ∧ w'.cell? ⟨w.heap.size, 1, none⟩ = some (.int .i64 ga) ∧ w'.cell? ⟨w.heap.size, 2, none⟩ = some (.int .i64 la) ∧ w'.cell? ⟨w.heap.size, 3, none⟩ = some (.slice aa na ca) ∧ w'.cell? ⟨w.heap.size + 1, 0, none⟩ = some (.int .i64 kb) ∧ w'.cell? ⟨w.heap.size + 1, 1, none⟩ = some (.int .i64 gb) ∧ w'.cell? ⟨w.heap.size + 1, 2, none⟩ = some (.int .i64 lb) ∧ w'.cell? ⟨w.heap.size + 1, 3, none⟩ = some (.slice ab nb cb))) (by kernel_rfl) (HSu.out _ (below_drew _)) (HSu.out _ (below_drew _)) (fun hS0 => ?_)
  refine takeL0 (i := 0) (v := ?vr11) rfl rfl (by kernel_rfl) (by kernel_rfl) (by kernel_rfl) (by decide) (by kernel_rfl) (by kernel_rfl) (fun _ _ _ h => h) (Or.inl ⟨by rfl, ?hyr11⟩) (by assumption) ?_
  case hyr11 => (intro w hSw; (try dsimp only at hSw); go_simp; (try with_reducible rfl))
  try simp only [Act.put, List.setIfInBounds_toArray, List.set_cons_zero, List.set_cons_succ]
  refine takeL (i := 1) (v := ?vr12) rfl (by kernel_rfl) (by kernel_rfl) (by kernel_rfl) (by decide) (fun _ _ _ h => h) (Or.inl ⟨by rfl, ?hyr12⟩) (by assumption) ?_
  case hyr12 => (intro w hSw; (try dsimp only at hSw); go_simp; (try with_reducible rfl))
  try simp only [Act.put, List.setIfInBounds_toArray, List.set_cons_zero, List.set_cons_succ]
  refine readyL (rs := [2]) (by kernel_rfl) (by simp) ?_
  refine AllReadyL.cons rfl (fun K hK => ?_) AllReadyL.nil
  go_simp
  refine (isUnknownId_any _ _ _ _ (HTB.out.below (below_trans HBU.out (below_drew wu)))).mono ?_
  rintro e w1 ⟨rfl, hb1⟩
  have hB1 := below_trans HBU.out (below_trans (below_drew wu) hb1)
  refine hK.out _ _ ?_ (fun hS1 => ?_)
  · exact ⟨HS0.out _ hB1, fun _ => HS0.out _ hB1⟩
  clear hK K hS0
  try simp only [Act.put, List.setIfInBounds_toArray, List.set_cons_zero, List.set_cons_succ]
  refine readyL (rs := [3]) (by kernel_rfl) (by simp) ?_
  refine AllReadyL.cons rfl (fun K hK => ?_) AllReadyL.nil
  have bM := (hB1.block (w.heap.size + 1 + 1) (by have := HZS.out; omega)).trans HBZ.out
  have z0 := (cell_of_block (o := 0) bM).trans (show _ = some (.int .i64 0) from rfl)
  have z1 := (cell_of_block (o := 1) bM).trans (show _ = some (.int .i64 0) from rfl)
  have z2 := (cell_of_block (o := 2) bM).trans (show _ = some (.int .i64 0) from rfl)
  have z3 := (cell_of_block (o := 3) bM).trans (show _ = some (.slice none 0 0) from rfl)
  have yz := fun o => frozen_of_block (o := o) bM
  go_simp
  refine hK.out _ _ ?_ (fun hS2 => ?_)
  · exact ⟨⟨(by rw [cell_setCell_ne, cell_setCell_ne, cell_setCell_ne, cell_setCell_ne]; exact (HS0.out _ hB1).1; all_goals (first | (show w.heap.size ≠ w.heap.size + 1 + 1; omega) | (show w.heap.size + 1 ≠ w.heap.size + 1 + 1; omega))), (by rw [cell_setCell_ne, cell_setCell_ne, cell_setCell_ne, cell_setCell_ne]; exact (HS0.out _ hB1).2.1; all_goals (first | (show w.heap.size ≠ w.heap.size + 1 + 1; omega) | (show w.heap.size + 1 ≠ w.heap.size + 1 + 1; omega))), (by rw [cell_setCell_ne, cell_setCell_ne, cell_setCell_ne, cell_setCell_ne]; exact (HS0.out _ hB1).2.2.1; all_goals (first | (show w.heap.size ≠ w.heap.size + 1 + 1; omega) | (show w.heap.size + 1 ≠ w.heap.size + 1 + 1; omega))), (by rw [cell_setCell_ne, cell_setCell_ne, cell_setCell_ne, cell_setCell_ne]; exact (HS0.out _ hB1).2.2.2.1; all_goals (first | (show w.heap.size ≠ w.heap.size + 1 + 1; omega) | (show w.heap.size + 1 ≠ w.heap.size + 1 + 1; omega))), (by rw [cell_setCell_ne, cell_setCell_ne, cell_setCell_ne, cell_setCell_ne]; exact (HS0.out _ hB1).2.2.2.2.1; all_goals (first | (show w.heap.size ≠ w.heap.size + 1 + 1; omega) | (show w.heap.size + 1 ≠ w.heap.size + 1 + 1; omega))), (by rw [cell_setCell_ne, cell_setCell_ne, cell_setCell_ne, cell_setCell_ne]; exact (HS0.out _ hB1).2.2.2.2.2.1; all_goals (first | (show w.heap.size ≠ w.heap.size + 1 + 1; omega) | (show w.heap.size + 1 ≠ w.heap.size + 1 + 1; omega))), (by rw [cell_setCell_ne, cell_setCell_ne, cell_setCell_ne, cell_setCell_ne]; exact (HS0.out _ hB1).2.2.2.2.2.2.1; all_goals (first | (show w.heap.size ≠ w.heap.size + 1 + 1; omega) | (show w.heap.size + 1 ≠ w.heap.size + 1 + 1; omega))), (by rw [cell_setCell_ne, cell_setCell_ne, cell_setCell_ne, cell_setCell_ne]; exact (HS0.out _ hB1).2.2.2.2.2.2.2; all_goals (first | (show w.heap.size ≠ w.heap.size + 1 + 1; omega) | (show w.heap.size + 1 ≠ w.heap.size + 1 + 1; omega)))⟩, fun h => absurd (h.symm.trans (show _ = true by kernel_rfl)) (by decide)⟩
  clear hK K hS1
  try simp only [Act.put, List.setIfInBounds_toArray, List.set_cons_zero, List.set_cons_succ]
  refine readyL (rs := [4]) (by kernel_rfl) (by simp) ?_
  refine AllReadyL.cons rfl (fun K hK => ?_) AllReadyL.nil
  go_simp
  refine hK.out _ _ ?_ (fun hS3 => ?_)
  · exact ⟨⟨(by rw [cell_setCell_ne, cell_setCell_ne, cell_setCell_ne, cell_setCell_ne]; exact (HS0.out _ hB1).1; all_goals (first | (show w.heap.size ≠ w.heap.size + 1 + 1; omega) | (show w.heap.size + 1 ≠ w.heap.size + 1 + 1; omega))), (by rw [cell_setCell_ne, cell_setCell_ne, cell_setCell_ne, cell_setCell_ne]; exact (HS0.out _ hB1).2.1; all_goals (first | (show w.heap.size ≠ w.heap.size + 1 + 1; omega) | (show w.heap.size + 1 ≠ w.heap.size + 1 + 1; omega))), (by rw [cell_setCell_ne, cell_setCell_ne, cell_setCell_ne, cell_setCell_ne]; exact (HS0.out _ hB1).2.2.1; all_goals (first | (show w.heap.size ≠ w.heap.size + 1 + 1; omega) | (show w.heap.size + 1 ≠ w.heap.size + 1 + 1; omega))), (by rw [cell_setCell_ne, cell_setCell_ne, cell_setCell_ne, cell_setCell_ne]; exact (HS0.out _ hB1).2.2.2.1; all_goals (first | (show w.heap.size ≠ w.heap.size + 1 + 1; omega) | (show w.heap.size + 1 ≠ w.heap.size + 1 + 1; omega))), (by rw [cell_setCell_ne, cell_setCell_ne, cell_setCell_ne, cell_setCell_ne]; exact (HS0.out _ hB1).2.2.2.2.1; all_goals (first | (show w.heap.size ≠ w.heap.size + 1 + 1; omega) | (show w.heap.size + 1 ≠ w.heap.size + 1 + 1; omega))), (by rw [cell_setCell_ne, cell_setCell_ne, cell_setCell_ne, cell_setCell_ne]; exact (HS0.out _ hB1).2.2.2.2.2.1; all_goals (first | (show w.heap.size ≠ w.heap.size + 1 + 1; omega) | (show w.heap.size + 1 ≠ w.heap.size + 1 + 1; omega))), (by rw [cell_setCell_ne, cell_setCell_ne, cell_setCell_ne, cell_setCell_ne]; exact (HS0.out _ hB1).2.2.2.2.2.2.1; all_goals (first | (show w.heap.size ≠ w.heap.size + 1 + 1; omega) | (show w.heap.size + 1 ≠ w.heap.size + 1 + 1; omega))), (by rw [cell_setCell_ne, cell_setCell_ne, cell_setCell_ne, cell_setCell_ne]; exact (HS0.out _ hB1).2.2.2.2.2.2.2; all_goals (first | (show w.heap.size ≠ w.heap.size + 1 + 1; omega) | (show w.heap.size + 1 ≠ w.heap.size + 1 + 1; omega)))⟩, fun h => absurd (h.symm.trans (show _ = true by kernel_rfl)) (by decide)⟩
  clear hK K hS2
  try simp only [Act.put, List.setIfInBounds_toArray, List.set_cons_zero, List.set_cons_succ]
  refine doneL (by kernel_rfl) ?_ _
  have FIN := closeL (k := 4) (g := ga) (l := la) (a := aa) (n := na) (cap := ca) (w := w) (wF := w1) (M := w.heap.size + 1 + 1) (lo := w1.heap.size) (A := fa ++ fb) (o := o) (b := uidC (.mk kb gb lb us)) (HR.out) (fun c hc => ⟨fa, (by rw [HO.out] at hc; split at hc; cases hc; exact (HTA.out.below hB1); cases hc), fun x hx => .inl (by simp [hx])⟩) HA.out (by omega) (by have := HZS.out; have := (hB1).size; omega) (below_trans HB0.out hB1)
  simp only [put4, Nat.zero_add] at FIN
  go_wp2_with fail
  exact bodyPost_ret (v := .tuple #[.agg #[.int .i64 4, .int .i64 ga, .int .i64 la, .slice aa na ca], .bool (uidC (.mk kb gb lb us))]) (by simp [results, Try.results59, go_sem, z0, z1, z2, z3]) rfl FIN
set_option maxRecDepth 100000 in
set_option maxHeartbeats 4000000 in
theorem compose_bfail (dd : Nat) (ka ga la gb lb : Int) (ts us : List Co) (o : Option Co) (va vb : Value) (fa fb : List Nat) (w : World) (h4 : (ka == 4) = false) (h5 : (ka == 5) = false) (h6 : (ka == 6) = false) (hu1 : (ka == 1 && ga == 1) = false) (htw : tagWf dd (.mk ka ga la ts) = true) (ho : o = if tagC (.mk ka ga la ts) = gb then some (.mk 6 gb lb us) else none) (hata : (Co.mk ka ga la ts).At w va fa) (hatb : (Co.mk 6 gb lb us).At w vb fb) :
    Calls Try.prog 59 #[va, vb] w (MadeL w (fa ++ fb) (o)) := by
  have HA := hid (show ∀ x ∈ fa ++ fb, x < w.heap.size from fun x hx => (List.mem_append.1 hx).elim (hata.lt x) (hatb.lt x))
  have hata0 := hata
  have hatb0 := hatb
  obtain ⟨sa, rfl, hsa⟩ := Co.at_mk.1 hata
  obtain ⟨sb, rfl, hsb⟩ := Co.at_mk.1 hatb
  obtain ⟨aa, ca, rfl⟩ := hsa.shape
  generalize hlna : ts.length = na at *
  obtain ⟨ab, cb, rfl⟩ := hsb.shape
  generalize hlnb : us.length = nb at *
  have hb0 : Below w.heap.size w (((w.alloc (Obj.cells #[.int .i64 ka, .int .i64 ga, .int .i64 la, .slice aa na ca] 30)).alloc (Obj.cells #[.int .i64 6, .int .i64 gb, .int .i64 lb, .slice ab nb cb] 30)).alloc (Obj.cells #[.int .i64 0, .int .i64 0, .int .i64 0, .slice none 0 0] 30)) := (((Below.refl _ _).alloc (Nat.le_refl _) _).alloc (by simp) _).alloc (by simp; omega) _
  have hs0 : ((((w.alloc (Obj.cells #[.int .i64 ka, .int .i64 ga, .int .i64 la, .slice aa na ca] 30)).alloc (Obj.cells #[.int .i64 6, .int .i64 gb, .int .i64 lb, .slice ab nb cb] 30)).alloc (Obj.cells #[.int .i64 0, .int .i64 0, .int .i64 0, .slice none 0 0] 30))).heap.size = w.heap.size + 1 + 1 + 1 := by simp
  obtain ⟨bA, bB, bZ⟩ := three3 (Below.refl ((((w.alloc (Obj.cells #[.int .i64 ka, .int .i64 ga, .int .i64 la, .slice aa na ca] 30)).alloc (Obj.cells #[.int .i64 6, .int .i64 gb, .int .i64 lb, .slice ab nb cb] 30)).alloc (Obj.cells #[.int .i64 0, .int .i64 0, .int .i64 0, .slice none 0 0] 30))).heap.size (((w.alloc (Obj.cells #[.int .i64 ka, .int .i64 ga, .int .i64 la, .slice aa na ca] 30)).alloc (Obj.cells #[.int .i64 6, .int .i64 gb, .int .i64 lb, .slice ab nb cb] 30)).alloc (Obj.cells #[.int .i64 0, .int .i64 0, .int .i64 0, .slice none 0 0] 30)))
  have x0 : ((((w.alloc (Obj.cells #[.int .i64 ka, .int .i64 ga, .int .i64 la, .slice aa na ca] 30)).alloc (Obj.cells #[.int .i64 6, .int .i64 gb, .int .i64 lb, .slice ab nb cb] 30)).alloc (Obj.cells #[.int .i64 0, .int .i64 0, .int .i64 0, .slice none 0 0] 30))).cell? ⟨w.heap.size, 0, none⟩ = some (.int .i64 ka) := by rw [cell_of_block bA]; rfl
  have x1 : ((((w.alloc (Obj.cells #[.int .i64 ka, .int .i64 ga, .int .i64 la, .slice aa na ca] 30)).alloc (Obj.cells #[.int .i64 6, .int .i64 gb, .int .i64 lb, .slice ab nb cb] 30)).alloc (Obj.cells #[.int .i64 0, .int .i64 0, .int .i64 0, .slice none 0 0] 30))).cell? ⟨w.heap.size, 1, none⟩ = some (.int .i64 ga) := by rw [cell_of_block bA]; rfl
  have x2 : ((((w.alloc (Obj.cells #[.int .i64 ka, .int .i64 ga, .int .i64 la, .slice aa na ca] 30)).alloc (Obj.cells #[.int .i64 6, .int .i64 gb, .int .i64 lb, .slice ab nb cb] 30)).alloc (Obj.cells #[.int .i64 0, .int .i64 0, .int .i64 0, .slice none 0 0] 30))).cell? ⟨w.heap.size, 2, none⟩ = some (.int .i64 la) := by rw [cell_of_block bA]; rfl
  have x3 : ((((w.alloc (Obj.cells #[.int .i64 ka, .int .i64 ga, .int .i64 la, .slice aa na ca] 30)).alloc (Obj.cells #[.int .i64 6, .int .i64 gb, .int .i64 lb, .slice ab nb cb] 30)).alloc (Obj.cells #[.int .i64 0, .int .i64 0, .int .i64 0, .slice none 0 0] 30))).cell? ⟨w.heap.size, 3, none⟩ = some (.slice aa na ca) := by rw [cell_of_block bA]; rfl
  have y0 : ((((w.alloc (Obj.cells #[.int .i64 ka, .int .i64 ga, .int .i64 la, .slice aa na ca] 30)).alloc (Obj.cells #[.int .i64 6, .int .i64 gb, .int .i64 lb, .slice ab nb cb] 30)).alloc (Obj.cells #[.int .i64 0, .int .i64 0, .int .i64 0, .slice none 0 0] 30))).cell? ⟨w.heap.size + 1, 0, none⟩ = some (.int .i64 6) := by rw [cell_of_block bB]; rfl
  have y1 : ((((w.alloc (Obj.cells #[.int .i64 ka, .int .i64 ga, .int .i64 la, .slice aa na ca] 30)).alloc (Obj.cells #[.int .i64 6, .int .i64 gb, .int .i64 lb, .slice ab nb cb] 30)).alloc (Obj.cells #[.int .i64 0, .int .i64 0, .int .i64 0, .slice none 0 0] 30))).cell? ⟨w.heap.size + 1, 1, none⟩ = some (.int .i64 gb) := by rw [cell_of_block bB]; rfl
  have y2 : ((((w.alloc (Obj.cells #[.int .i64 ka, .int .i64 ga, .int .i64 la, .slice aa na ca] 30)).alloc (Obj.cells #[.int .i64 6, .int .i64 gb, .int .i64 lb, .slice ab nb cb] 30)).alloc (Obj.cells #[.int .i64 0, .int .i64 0, .int .i64 0, .slice none 0 0] 30))).cell? ⟨w.heap.size + 1, 2, none⟩ = some (.int .i64 lb) := by rw [cell_of_block bB]; rfl
  have y3 : ((((w.alloc (Obj.cells #[.int .i64 ka, .int .i64 ga, .int .i64 la, .slice aa na ca] 30)).alloc (Obj.cells #[.int .i64 6, .int .i64 gb, .int .i64 lb, .slice ab nb cb] 30)).alloc (Obj.cells #[.int .i64 0, .int .i64 0, .int .i64 0, .slice none 0 0] 30))).cell? ⟨w.heap.size + 1, 3, none⟩ = some (.slice ab nb cb) := by rw [cell_of_block bB]; rfl
  have HB0 := hid hb0
  have HTA0 := hid hata0
  have HTB0 := hid hatb0
  have HBZ := hid bZ
  have HTA := hid (hata0.below hb0)
  have HTB := hid (hatb0.below hb0)
  obtain ⟨Z, hZd⟩ : ∃ Z, Z = (((w.alloc (Obj.cells #[.int .i64 ka, .int .i64 ga, .int .i64 la, .slice aa na ca] 30)).alloc (Obj.cells #[.int .i64 6, .int .i64 gb, .int .i64 lb, .slice ab nb cb] 30)).alloc (Obj.cells #[.int .i64 0, .int .i64 0, .int .i64 0, .slice none 0 0] 30)) := ⟨_, rfl⟩
  rw [← hZd] at hb0 hs0 HB0 HBZ HTA HTB  x0 x1 x2 x3 y0 y1 y2 y3
  have HZS := hid hs0
  have HS0 := hid (show ∀ w', Below Z.heap.size Z w' → (fun w' => w'.cell? ⟨w.heap.size, 0, none⟩ = some (.int .i64 ka) ∧ w'.cell? ⟨w.heap.size, 1, none⟩ = some (.int .i64 ga) ∧ w'.cell? ⟨w.heap.size, 2, none⟩ = some (.int .i64 la) ∧ w'.cell? ⟨w.heap.size, 3, none⟩ = some (.slice aa na ca) ∧ w'.cell? ⟨w.heap.size + 1, 0, none⟩ = some (.int .i64 6) ∧ w'.cell? ⟨w.heap.size + 1, 1, none⟩ = some (.int .i64 gb) ∧ w'.cell? ⟨w.heap.size + 1, 2, none⟩ = some (.int .i64 lb) ∧ w'.cell? ⟨w.heap.size + 1, 3, none⟩ = some (.slice ab nb cb)) w' from fun w' h => ⟨cell_keep x0 h, cell_keep x1 h, cell_keep x2 h, cell_keep x3 h, cell_keep y0 h, cell_keep y1 h, cell_keep y2 h, cell_keep y3 h⟩)
  have HZD := hid hZd
  clear hb0 hs0 bA bB bZ hata hatb hata0 hatb0 hsa hsb hZd 
  have HO := hid ho
  clear ho
  have HR := hid (show o.isSome = (tagC (.mk ka ga la ts) == gb) by rw [HO.out]; by_cases h : tagC (.mk ka ga la ts) = gb <;> simp [h])
  have HTW := hid htw
  clear htw
  have HU := hid (isUnknownId_any _ _ _ Z HTA.out)
  rw [uid_mk, hu1] at HU
  clear hu1
  go_enter Try.func59, Try.ntmps59
  go_wp2_with fail
  rw [← HZD.out]
  refine HU.out.mono ?_
  rintro e wu ⟨rfl, hbu⟩
  have hSS := HS0.out _ hbu
  clear x0 x1 x2 x3 y0 y1 y2 y3
  obtain ⟨x0, x1, x2, x3, y0, y1, y2, y3⟩ := hSS
  have HBU := hid hbu
  have HSu := hid (show ∀ w', Below wu.heap.size wu w' → (fun w' => w'.cell? ⟨w.heap.size, 0, none⟩ = some (.int .i64 ka) ∧ w'.cell? ⟨w.heap.size, 1, none⟩ = some (.int .i64 ga) ∧ w'.cell? ⟨w.heap.size, 2, none⟩ = some (.int .i64 la) ∧ w'.cell? ⟨w.heap.size, 3, none⟩ = some (.slice aa na ca) ∧ w'.cell? ⟨w.heap.size + 1, 0, none⟩ = some (.int .i64 6) ∧ w'.cell? ⟨w.heap.size + 1, 1, none⟩ = some (.int .i64 gb) ∧ w'.cell? ⟨w.heap.size + 1, 2, none⟩ = some (.int .i64 lb) ∧ w'.cell? ⟨w.heap.size + 1, 3, none⟩ = some (.slice ab nb cb)) w' from fun w' h => HS0.out _ (below_trans hbu h))
  have HZU := hid hbu.size
  clear hbu
  go_wp2_with fail
  refine regionL (s := 6) (S0 := (fun w' => w'.cell? ⟨w.heap.size, 0, none⟩ = some (.int .i64 ka) ∧ w'.cell? ⟨w.heap.size, 1, none⟩ = some (.int .i64 ga) ∧ w'.cell? ⟨w.heap.size, 2, none⟩ = some (.int .i64 la) ∧ w'.cell? ⟨w.heap.size, 3, none⟩ = some (.slice aa na ca) ∧ w'.cell? ⟨w.heap.size + 1, 0, none⟩ = some (.int .i64 6) ∧ w'.cell? ⟨w.heap.size + 1, 1, none⟩ = some (.int .i64 gb) ∧ w'.cell? ⟨w.heap.size + 1, 2, none⟩ = some (.int .i64 lb) ∧ w'.cell? ⟨w.heap.size + 1, 3, none⟩ = some (.slice ab nb cb))) (S1 := (fun w' => w'.cell? ⟨w.heap.size, 0, none⟩ = some (.int .i64 ka) ∧ w'.cell? ⟨w.heap.size, 1, none⟩ = some (.int .i64 ga) ∧ w'.cell? ⟨w.heap.size, 2, none⟩ = some (.int .i64 la) ∧ w'.cell? ⟨w.heap.size, 3, none⟩ = some (.slice aa na ca) ∧ w'.cell? ⟨w.heap.size + 1, 0, none⟩ = some (.int .i64 6) ∧ w'.cell? ⟨w.heap.size + 1, 1, none⟩ = some (.int .i64 gb) ∧ w'.cell? ⟨w.heap.size + 1, 2, none⟩ = some (.int .i64 lb) ∧ w'.cell? ⟨w.heap.size + 1, 3, none⟩ = some (.slice ab nb cb))) (by kernel_rfl) (HSu.out _ (below_drew _)) (HSu.out _ (below_drew _)) (fun hS0 => ?_)
  refine takeL0 (i := 0) (v := ?vr11) rfl rfl (by kernel_rfl) (by kernel_rfl) (by kernel_rfl) (by decide) (by kernel_rfl) (by kernel_rfl) (fun _ _ _ h => h) (Or.inl ⟨by rfl, ?hyr11⟩) (by assumption) ?_
  case hyr11 => (intro w hSw; (try dsimp only at hSw); go_simp; (try with_reducible rfl))
  try simp only [Act.put, List.setIfInBounds_toArray, List.set_cons_zero, List.set_cons_succ]
  refine takeL (i := 1) (v := ?vr12) rfl (by kernel_rfl) (by kernel_rfl) (by kernel_rfl) (by decide) (fun _ _ _ h => h) (Or.inl ⟨by rfl, ?hyr12⟩) (by assumption) ?_
  case hyr12 => (intro w hSw; (try dsimp only at hSw); go_simp; (try with_reducible rfl))
  try simp only [Act.put, List.setIfInBounds_toArray, List.set_cons_zero, List.set_cons_succ]
  refine takeL (i := 3) (v := ?vr13) rfl (by kernel_rfl) (by kernel_rfl) (by kernel_rfl) (by decide) (fun _ _ _ h => h) (Or.inl ⟨by rfl, ?hyr13⟩) (by assumption) ?_
  case hyr13 => (intro w hSw; (try dsimp only at hSw); go_simp; (try with_reducible rfl))
  try simp only [Act.put, List.setIfInBounds_toArray, List.set_cons_zero, List.set_cons_succ]
  refine takeL (i := 4) (v := ?vr14) rfl (by kernel_rfl) (by kernel_rfl) (by kernel_rfl) (by decide) (fun _ _ _ h => h) (Or.inl ⟨by rfl, ?hyr14⟩) (by assumption) ?_
  case hyr14 => (intro w hSw; (try dsimp only at hSw); go_simp; (try with_reducible rfl))
  try simp only [Act.put, List.setIfInBounds_toArray, List.set_cons_zero, List.set_cons_succ]
  refine readyL (rs := [2]) (by kernel_rfl) (by simp) ?_
  refine AllReadyL.cons rfl (fun K hK => ?_) AllReadyL.nil
  go_simp
  refine (tagi_any dd _ _ _ _ HTW.out (HTA.out.below (below_trans HBU.out (below_drew wu)))).mono ?_
  rintro e w1 ⟨rfl, hb1⟩
  have hB1 := below_trans HBU.out (below_trans (below_drew wu) hb1)
  refine hK.out _ _ ?_ (fun hS1 => ?_)
  · exact ⟨HS0.out _ hB1, fun _ => HS0.out _ hB1⟩
  clear hK K hS0
  try simp only [Act.put, List.setIfInBounds_toArray, List.set_cons_zero, List.set_cons_succ]
  refine takeL (i := 5) (v := ?vr15) rfl (by kernel_rfl) (by kernel_rfl) (by kernel_rfl) (by decide) (fun _ _ _ h => h) (Or.inl ⟨by rfl, ?hyr15⟩) (by assumption) ?_
  case hyr15 => (intro w hSw; (try dsimp only at hSw); go_simp; (try with_reducible rfl))
  try simp only [Act.put, List.setIfInBounds_toArray, List.set_cons_zero, List.set_cons_succ]
  refine readyL (rs := [6]) (by kernel_rfl) (by simp) ?_
  refine AllReadyL.cons rfl (fun K hK => ?_) AllReadyL.nil
  have bM := (hB1.block (w.heap.size + 1 + 1) (by have := HZS.out; omega)).trans HBZ.out
  have z0 := (cell_of_block (o := 0) bM).trans (show _ = some (.int .i64 0) from rfl)
  have z1 := (cell_of_block (o := 1) bM).trans (show _ = some (.int .i64 0) from rfl)
  have z2 := (cell_of_block (o := 2) bM).trans (show _ = some (.int .i64 0) from rfl)
  have z3 := (cell_of_block (o := 3) bM).trans (show _ = some (.slice none 0 0) from rfl)
  have yz := fun o => frozen_of_block (o := o) bM
  go_simp
  refine hK.out _ _ ?_ (fun hS2 => ?_)
  · exact ⟨⟨(by rw [cell_setCell_ne, cell_setCell_ne, cell_setCell_ne, cell_setCell_ne]; exact (HS0.out _ hB1).1; all_goals (first | (show w.heap.size ≠ w.heap.size + 1 + 1; omega) | (show w.heap.size + 1 ≠ w.heap.size + 1 + 1; omega))), (by rw [cell_setCell_ne, cell_setCell_ne, cell_setCell_ne, cell_setCell_ne]; exact (HS0.out _ hB1).2.1; all_goals (first | (show w.heap.size ≠ w.heap.size + 1 + 1; omega) | (show w.heap.size + 1 ≠ w.heap.size + 1 + 1; omega))), (by rw [cell_setCell_ne, cell_setCell_ne, cell_setCell_ne, cell_setCell_ne]; exact (HS0.out _ hB1).2.2.1; all_goals (first | (show w.heap.size ≠ w.heap.size + 1 + 1; omega) | (show w.heap.size + 1 ≠ w.heap.size + 1 + 1; omega))), (by rw [cell_setCell_ne, cell_setCell_ne, cell_setCell_ne, cell_setCell_ne]; exact (HS0.out _ hB1).2.2.2.1; all_goals (first | (show w.heap.size ≠ w.heap.size + 1 + 1; omega) | (show w.heap.size + 1 ≠ w.heap.size + 1 + 1; omega))), (by rw [cell_setCell_ne, cell_setCell_ne, cell_setCell_ne, cell_setCell_ne]; exact (HS0.out _ hB1).2.2.2.2.1; all_goals (first | (show w.heap.size ≠ w.heap.size + 1 + 1; omega) | (show w.heap.size + 1 ≠ w.heap.size + 1 + 1; omega))), (by rw [cell_setCell_ne, cell_setCell_ne, cell_setCell_ne, cell_setCell_ne]; exact (HS0.out _ hB1).2.2.2.2.2.1; all_goals (first | (show w.heap.size ≠ w.heap.size + 1 + 1; omega) | (show w.heap.size + 1 ≠ w.heap.size + 1 + 1; omega))), (by rw [cell_setCell_ne, cell_setCell_ne, cell_setCell_ne, cell_setCell_ne]; exact (HS0.out _ hB1).2.2.2.2.2.2.1; all_goals (first | (show w.heap.size ≠ w.heap.size + 1 + 1; omega) | (show w.heap.size + 1 ≠ w.heap.size + 1 + 1; omega))), (by rw [cell_setCell_ne, cell_setCell_ne, cell_setCell_ne, cell_setCell_ne]; exact (HS0.out _ hB1).2.2.2.2.2.2.2; all_goals (first | (show w.heap.size ≠ w.heap.size + 1 + 1; omega) | (show w.heap.size + 1 ≠ w.heap.size + 1 + 1; omega)))⟩, fun h => absurd (h.symm.trans (show _ = true by kernel_rfl)) (by decide)⟩
  clear hK K hS1
  try simp only [Act.put, List.setIfInBounds_toArray, List.set_cons_zero, List.set_cons_succ]
  refine readyL (rs := [7]) (by kernel_rfl) (by simp) ?_
  refine AllReadyL.cons rfl (fun K hK => ?_) AllReadyL.nil
  go_simp
  refine hK.out _ _ ?_ (fun hS3 => ?_)
  · exact ⟨⟨(by rw [cell_setCell_ne, cell_setCell_ne, cell_setCell_ne, cell_setCell_ne]; exact (HS0.out _ hB1).1; all_goals (first | (show w.heap.size ≠ w.heap.size + 1 + 1; omega) | (show w.heap.size + 1 ≠ w.heap.size + 1 + 1; omega))), (by rw [cell_setCell_ne, cell_setCell_ne, cell_setCell_ne, cell_setCell_ne]; exact (HS0.out _ hB1).2.1; all_goals (first | (show w.heap.size ≠ w.heap.size + 1 + 1; omega) | (show w.heap.size + 1 ≠ w.heap.size + 1 + 1; omega))), (by rw [cell_setCell_ne, cell_setCell_ne, cell_setCell_ne, cell_setCell_ne]; exact (HS0.out _ hB1).2.2.1; all_goals (first | (show w.heap.size ≠ w.heap.size + 1 + 1; omega) | (show w.heap.size + 1 ≠ w.heap.size + 1 + 1; omega))), (by rw [cell_setCell_ne, cell_setCell_ne, cell_setCell_ne, cell_setCell_ne]; exact (HS0.out _ hB1).2.2.2.1; all_goals (first | (show w.heap.size ≠ w.heap.size + 1 + 1; omega) | (show w.heap.size + 1 ≠ w.heap.size + 1 + 1; omega))), (by rw [cell_setCell_ne, cell_setCell_ne, cell_setCell_ne, cell_setCell_ne]; exact (HS0.out _ hB1).2.2.2.2.1; all_goals (first | (show w.heap.size ≠ w.heap.size + 1 + 1; omega) | (show w.heap.size + 1 ≠ w.heap.size + 1 + 1; omega))), (by rw [cell_setCell_ne, cell_setCell_ne, cell_setCell_ne, cell_setCell_ne]; exact (HS0.out _ hB1).2.2.2.2.2.1; all_goals (first | (show w.heap.size ≠ w.heap.size + 1 + 1; omega) | (show w.heap.size + 1 ≠ w.heap.size + 1 + 1; omega))), (by rw [cell_setCell_ne, cell_setCell_ne, cell_setCell_ne, cell_setCell_ne]; exact (HS0.out _ hB1).2.2.2.2.2.2.1; all_goals (first | (show w.heap.size ≠ w.heap.size + 1 + 1; omega) | (show w.heap.size + 1 ≠ w.heap.size + 1 + 1; omega))), (by rw [cell_setCell_ne, cell_setCell_ne, cell_setCell_ne, cell_setCell_ne]; exact (HS0.out _ hB1).2.2.2.2.2.2.2; all_goals (first | (show w.heap.size ≠ w.heap.size + 1 + 1; omega) | (show w.heap.size + 1 ≠ w.heap.size + 1 + 1; omega)))⟩, fun h => absurd (h.symm.trans (show _ = true by kernel_rfl)) (by decide)⟩
  clear hK K hS2
  try simp only [Act.put, List.setIfInBounds_toArray, List.set_cons_zero, List.set_cons_succ]
  refine doneL (by kernel_rfl) ?_ _
  have FIN := closeL (k := 6) (g := gb) (l := lb) (a := ab) (n := nb) (cap := cb) (w := w) (wF := w1) (M := w.heap.size + 1 + 1) (lo := w1.heap.size) (A := fa ++ fb) (o := o) (b := tagC (.mk ka ga la ts) == gb) (HR.out) (fun c hc => ⟨fb, (by rw [HO.out] at hc; split at hc; cases hc; exact (HTB.out.below hB1); cases hc), fun x hx => .inl (by simp [hx])⟩) HA.out (by omega) (by have := HZS.out; have := (hB1).size; omega) (below_trans HB0.out hB1)
  simp only [put4, Nat.zero_add] at FIN
  go_wp2_with fail
  exact bodyPost_ret (v := .tuple #[.agg #[.int .i64 6, .int .i64 gb, .int .i64 lb, .slice ab nb cb], .bool (tagC (.mk ka ga la ts) == gb)]) (by simp [results, Try.results59, go_sem, z0, z1, z2, z3]) rfl FIN
set_option maxRecDepth 100000 in
set_option maxHeartbeats 4000000 in
theorem compose_binj (n : Nat) (ih : CpiC n) (ka ga la gb lb : Int) (ts : List Co) (b1 : Co) (d d' : Nat) (va vb : Value) (fa fb : List Nat) (w : World) (hd : d + d' ≤ n) (hd1 : d ≤ 9) (hd2 : d' ≤ 9) (hs1 : shpK d (.mk ka ga la ts) = true) (hs2 : shpK d' b1 = true) (h4 : (ka == 4) = false) (h5 : (ka == 5) = false) (h6 : (ka == 6) = false) (hu1 : (ka == 1 && ga == 1) = false) (hata : (Co.mk ka ga la ts).At w va fa) (hatb : (Co.mk 4 gb lb [b1]).At w vb fb) :
    Calls Try.prog 59 #[va, vb] w (MadeL w (fa ++ fb) ((cmpo n (.mk ka ga la ts) b1).map fun c => .mk 4 0 0 [c])) := by
  have HA := hid (show ∀ x ∈ fa ++ fb, x < w.heap.size from fun x hx => (List.mem_append.1 hx).elim (hata.lt x) (hatb.lt x))
  have hata0 := hata
  have hatb0 := hatb
  obtain ⟨sa, rfl, hsa⟩ := Co.at_mk.1 hata
  obtain ⟨sb, rfl, hsb⟩ := Co.at_mk.1 hatb
  obtain ⟨aa, ca, rfl⟩ := hsa.shape
  generalize hlna : ts.length = na at *
  obtain ⟨bb, ob, cb, kb1, gb1, lb1, nb1, ab1, cb1, fb1, rfl, hbb, e0, e1, e2, e3, hb1, hfb, _⟩ := hsb.one
  have hb0 : Below w.heap.size w (((w.alloc (Obj.cells #[.int .i64 ka, .int .i64 ga, .int .i64 la, .slice aa na ca] 30)).alloc (Obj.cells #[.int .i64 4, .int .i64 gb, .int .i64 lb, .slice (some ⟨bb, ob, none⟩) 1 cb] 30)).alloc (Obj.cells #[.int .i64 0, .int .i64 0, .int .i64 0, .slice none 0 0] 30)) := (((Below.refl _ _).alloc (Nat.le_refl _) _).alloc (by simp) _).alloc (by simp; omega) _
  have hs0 : ((((w.alloc (Obj.cells #[.int .i64 ka, .int .i64 ga, .int .i64 la, .slice aa na ca] 30)).alloc (Obj.cells #[.int .i64 4, .int .i64 gb, .int .i64 lb, .slice (some ⟨bb, ob, none⟩) 1 cb] 30)).alloc (Obj.cells #[.int .i64 0, .int .i64 0, .int .i64 0, .slice none 0 0] 30))).heap.size = w.heap.size + 1 + 1 + 1 := by simp
  obtain ⟨bA, bB, bZ⟩ := three3 (Below.refl ((((w.alloc (Obj.cells #[.int .i64 ka, .int .i64 ga, .int .i64 la, .slice aa na ca] 30)).alloc (Obj.cells #[.int .i64 4, .int .i64 gb, .int .i64 lb, .slice (some ⟨bb, ob, none⟩) 1 cb] 30)).alloc (Obj.cells #[.int .i64 0, .int .i64 0, .int .i64 0, .slice none 0 0] 30))).heap.size (((w.alloc (Obj.cells #[.int .i64 ka, .int .i64 ga, .int .i64 la, .slice aa na ca] 30)).alloc (Obj.cells #[.int .i64 4, .int .i64 gb, .int .i64 lb, .slice (some ⟨bb, ob, none⟩) 1 cb] 30)).alloc (Obj.cells #[.int .i64 0, .int .i64 0, .int .i64 0, .slice none 0 0] 30)))
  have x0 : ((((w.alloc (Obj.cells #[.int .i64 ka, .int .i64 ga, .int .i64 la, .slice aa na ca] 30)).alloc (Obj.cells #[.int .i64 4, .int .i64 gb, .int .i64 lb, .slice (some ⟨bb, ob, none⟩) 1 cb] 30)).alloc (Obj.cells #[.int .i64 0, .int .i64 0, .int .i64 0, .slice none 0 0] 30))).cell? ⟨w.heap.size, 0, none⟩ = some (.int .i64 ka) := by rw [cell_of_block bA]; rfl
  have x1 : ((((w.alloc (Obj.cells #[.int .i64 ka, .int .i64 ga, .int .i64 la, .slice aa na ca] 30)).alloc (Obj.cells #[.int .i64 4, .int .i64 gb, .int .i64 lb, .slice (some ⟨bb, ob, none⟩) 1 cb] 30)).alloc (Obj.cells #[.int .i64 0, .int .i64 0, .int .i64 0, .slice none 0 0] 30))).cell? ⟨w.heap.size, 1, none⟩ = some (.int .i64 ga) := by rw [cell_of_block bA]; rfl
  have x2 : ((((w.alloc (Obj.cells #[.int .i64 ka, .int .i64 ga, .int .i64 la, .slice aa na ca] 30)).alloc (Obj.cells #[.int .i64 4, .int .i64 gb, .int .i64 lb, .slice (some ⟨bb, ob, none⟩) 1 cb] 30)).alloc (Obj.cells #[.int .i64 0, .int .i64 0, .int .i64 0, .slice none 0 0] 30))).cell? ⟨w.heap.size, 2, none⟩ = some (.int .i64 la) := by rw [cell_of_block bA]; rfl
  have x3 : ((((w.alloc (Obj.cells #[.int .i64 ka, .int .i64 ga, .int .i64 la, .slice aa na ca] 30)).alloc (Obj.cells #[.int .i64 4, .int .i64 gb, .int .i64 lb, .slice (some ⟨bb, ob, none⟩) 1 cb] 30)).alloc (Obj.cells #[.int .i64 0, .int .i64 0, .int .i64 0, .slice none 0 0] 30))).cell? ⟨w.heap.size, 3, none⟩ = some (.slice aa na ca) := by rw [cell_of_block bA]; rfl
  have y0 : ((((w.alloc (Obj.cells #[.int .i64 ka, .int .i64 ga, .int .i64 la, .slice aa na ca] 30)).alloc (Obj.cells #[.int .i64 4, .int .i64 gb, .int .i64 lb, .slice (some ⟨bb, ob, none⟩) 1 cb] 30)).alloc (Obj.cells #[.int .i64 0, .int .i64 0, .int .i64 0, .slice none 0 0] 30))).cell? ⟨w.heap.size + 1, 0, none⟩ = some (.int .i64 4) := by rw [cell_of_block bB]; rfl
  have y1 : ((((w.alloc (Obj.cells #[.int .i64 ka, .int .i64 ga, .int .i64 la, .slice aa na ca] 30)).alloc (Obj.cells #[.int .i64 4, .int .i64 gb, .int .i64 lb, .slice (some ⟨bb, ob, none⟩) 1 cb] 30)).alloc (Obj.cells #[.int .i64 0, .int .i64 0, .int .i64 0, .slice none 0 0] 30))).cell? ⟨w.heap.size + 1, 1, none⟩ = some (.int .i64 gb) := by rw [cell_of_block bB]; rfl
  have y2 : ((((w.alloc (Obj.cells #[.int .i64 ka, .int .i64 ga, .int .i64 la, .slice aa na ca] 30)).alloc (Obj.cells #[.int .i64 4, .int .i64 gb, .int .i64 lb, .slice (some ⟨bb, ob, none⟩) 1 cb] 30)).alloc (Obj.cells #[.int .i64 0, .int .i64 0, .int .i64 0, .slice none 0 0] 30))).cell? ⟨w.heap.size + 1, 2, none⟩ = some (.int .i64 lb) := by rw [cell_of_block bB]; rfl
  have y3 : ((((w.alloc (Obj.cells #[.int .i64 ka, .int .i64 ga, .int .i64 la, .slice aa na ca] 30)).alloc (Obj.cells #[.int .i64 4, .int .i64 gb, .int .i64 lb, .slice (some ⟨bb, ob, none⟩) 1 cb] 30)).alloc (Obj.cells #[.int .i64 0, .int .i64 0, .int .i64 0, .slice none 0 0] 30))).cell? ⟨w.heap.size + 1, 3, none⟩ = some (.slice (some ⟨bb, ob, none⟩) 1 cb) := by rw [cell_of_block bB]; rfl
  replace e0 := cell_keep e0 hb0
  replace e1 := cell_keep e1 hb0
  replace e2 := cell_keep e2 hb0
  replace e3 := cell_keep e3 hb0
  have HB0 := hid hb0
  have HTA0 := hid hata0
  have HTB0 := hid hatb0
  have HBZ := hid bZ
  have HTA := hid (hata0.below hb0)
  have HTB := hid (hatb0.below hb0)
  have Hhb1 := hid (hb1.below hb0)
  obtain ⟨Z, hZd⟩ : ∃ Z, Z = (((w.alloc (Obj.cells #[.int .i64 ka, .int .i64 ga, .int .i64 la, .slice aa na ca] 30)).alloc (Obj.cells #[.int .i64 4, .int .i64 gb, .int .i64 lb, .slice (some ⟨bb, ob, none⟩) 1 cb] 30)).alloc (Obj.cells #[.int .i64 0, .int .i64 0, .int .i64 0, .slice none 0 0] 30)) := ⟨_, rfl⟩
  rw [← hZd] at hb0 hs0 HB0 HBZ HTA HTB Hhb1 x0 x1 x2 x3 y0 y1 y2 y3 e0 e1 e2 e3
  have HZS := hid hs0
  have HS0 := hid (show ∀ w', Below Z.heap.size Z w' → (fun w' => w'.cell? ⟨w.heap.size, 0, none⟩ = some (.int .i64 ka) ∧ w'.cell? ⟨w.heap.size, 1, none⟩ = some (.int .i64 ga) ∧ w'.cell? ⟨w.heap.size, 2, none⟩ = some (.int .i64 la) ∧ w'.cell? ⟨w.heap.size, 3, none⟩ = some (.slice aa na ca) ∧ w'.cell? ⟨w.heap.size + 1, 0, none⟩ = some (.int .i64 4) ∧ w'.cell? ⟨w.heap.size + 1, 1, none⟩ = some (.int .i64 gb) ∧ w'.cell? ⟨w.heap.size + 1, 2, none⟩ = some (.int .i64 lb) ∧ w'.cell? ⟨w.heap.size + 1, 3, none⟩ = some (.slice (some ⟨bb, ob, none⟩) 1 cb) ∧ w'.cell? ⟨bb, ob, none⟩ = some (.int .i64 kb1) ∧ w'.cell? ⟨bb, ob + 1, none⟩ = some (.int .i64 gb1) ∧ w'.cell? ⟨bb, ob + 2, none⟩ = some (.int .i64 lb1) ∧ w'.cell? ⟨bb, ob + 3, none⟩ = some (.slice ab1 nb1 cb1)) w' from fun w' h => ⟨cell_keep x0 h, cell_keep x1 h, cell_keep x2 h, cell_keep x3 h, cell_keep y0 h, cell_keep y1 h, cell_keep y2 h, cell_keep y3 h, cell_keep e0 h, cell_keep e1 h, cell_keep e2 h, cell_keep e3 h⟩)
  have HZD := hid hZd
  clear hb0 hs0 bA bB bZ hata hatb hata0 hatb0 hsa hsb hZd hb1
  have HP := hid (And.intro hd (And.intro hd1 (And.intro hd2 (And.intro hs1 hs2))))
  have HIH := hid ih
  have HF := hid hfb
  clear hd hd1 hd2 hs1 hs2 ih hfb
  have HU := hid (isUnknownId_any _ _ _ Z HTA.out)
  rw [uid_mk, hu1] at HU
  clear hu1
  go_enter Try.func59, Try.ntmps59
  go_wp2_with fail
  rw [← HZD.out]
  refine HU.out.mono ?_
  rintro e wu ⟨rfl, hbu⟩
  have hSS := HS0.out _ hbu
  clear x0 x1 x2 x3 y0 y1 y2 y3 e0 e1 e2 e3
  obtain ⟨x0, x1, x2, x3, y0, y1, y2, y3, e0, e1, e2, e3⟩ := hSS
  have HBU := hid hbu
  have HSu := hid (show ∀ w', Below wu.heap.size wu w' → (fun w' => w'.cell? ⟨w.heap.size, 0, none⟩ = some (.int .i64 ka) ∧ w'.cell? ⟨w.heap.size, 1, none⟩ = some (.int .i64 ga) ∧ w'.cell? ⟨w.heap.size, 2, none⟩ = some (.int .i64 la) ∧ w'.cell? ⟨w.heap.size, 3, none⟩ = some (.slice aa na ca) ∧ w'.cell? ⟨w.heap.size + 1, 0, none⟩ = some (.int .i64 4) ∧ w'.cell? ⟨w.heap.size + 1, 1, none⟩ = some (.int .i64 gb) ∧ w'.cell? ⟨w.heap.size + 1, 2, none⟩ = some (.int .i64 lb) ∧ w'.cell? ⟨w.heap.size + 1, 3, none⟩ = some (.slice (some ⟨bb, ob, none⟩) 1 cb) ∧ w'.cell? ⟨bb, ob, none⟩ = some (.int .i64 kb1) ∧ w'.cell? ⟨bb, ob + 1, none⟩ = some (.int .i64 gb1) ∧ w'.cell? ⟨bb, ob + 2, none⟩ = some (.int .i64 lb1) ∧ w'.cell? ⟨bb, ob + 3, none⟩ = some (.slice ab1 nb1 cb1)) w' from fun w' h => HS0.out _ (below_trans hbu h))
  have HZU := hid hbu.size
  clear hbu
  go_wp2_with fail
  go_cut [8, 9] (fun sx sq wx => CutL wu (fa ++ fb1) (cmpo n (.mk ka ga la ts) b1) sx sq wx)
  case first =>
    refine regionL (s := 10) (S0 := (fun w' => w'.cell? ⟨w.heap.size, 0, none⟩ = some (.int .i64 ka) ∧ w'.cell? ⟨w.heap.size, 1, none⟩ = some (.int .i64 ga) ∧ w'.cell? ⟨w.heap.size, 2, none⟩ = some (.int .i64 la) ∧ w'.cell? ⟨w.heap.size, 3, none⟩ = some (.slice aa na ca) ∧ w'.cell? ⟨w.heap.size + 1, 0, none⟩ = some (.int .i64 4) ∧ w'.cell? ⟨w.heap.size + 1, 1, none⟩ = some (.int .i64 gb) ∧ w'.cell? ⟨w.heap.size + 1, 2, none⟩ = some (.int .i64 lb) ∧ w'.cell? ⟨w.heap.size + 1, 3, none⟩ = some (.slice (some ⟨bb, ob, none⟩) 1 cb) ∧ w'.cell? ⟨bb, ob, none⟩ = some (.int .i64 kb1) ∧ w'.cell? ⟨bb, ob + 1, none⟩ = some (.int .i64 gb1) ∧ w'.cell? ⟨bb, ob + 2, none⟩ = some (.int .i64 lb1) ∧ w'.cell? ⟨bb, ob + 3, none⟩ = some (.slice ab1 nb1 cb1))) (S1 := (fun _ => True)) (by kernel_rfl) (HSu.out _ (below_drew _)) (trivial) (fun hS0 => ?_)
    refine takeL0 (i := 0) (v := ?vr11) rfl rfl (by kernel_rfl) (by kernel_rfl) (by kernel_rfl) (by decide) (by kernel_rfl) (by kernel_rfl) (fun _ _ _ h => h) (Or.inl ⟨by rfl, ?hyr11⟩) (by assumption) ?_
    case hyr11 => (intro w hSw; (try dsimp only at hSw); go_simp; (try with_reducible rfl))
    try simp only [Act.put, List.setIfInBounds_toArray, List.set_cons_zero, List.set_cons_succ]
    refine takeL0 (i := 1) (v := ?vr12) rfl rfl (by kernel_rfl) (by kernel_rfl) (by kernel_rfl) (by decide) (by kernel_rfl) (by kernel_rfl) (fun _ _ _ h => h) (Or.inl ⟨by rfl, ?hyr12⟩) (by assumption) ?_
    case hyr12 => (intro w hSw; (try dsimp only at hSw); go_simp; (try with_reducible rfl))
    try simp only [Act.put, List.setIfInBounds_toArray, List.set_cons_zero, List.set_cons_succ]
    refine takeL0 (i := 2) (v := ?vr13) rfl rfl (by kernel_rfl) (by kernel_rfl) (by kernel_rfl) (by decide) (by kernel_rfl) (by kernel_rfl) (fun _ _ _ h => h) (Or.inl ⟨by rfl, ?hyr13⟩) (by assumption) ?_
    case hyr13 => (intro w hSw; (try dsimp only at hSw); go_simp; (try with_reducible rfl))
    try simp only [Act.put, List.setIfInBounds_toArray, List.set_cons_zero, List.set_cons_succ]
    refine takeL0 (i := 3) (v := ?vr14) rfl rfl (by kernel_rfl) (by kernel_rfl) (by kernel_rfl) (by decide) (by kernel_rfl) (by kernel_rfl) (fun _ _ _ h => h) (Or.inl ⟨by rfl, ?hyr14⟩) (by assumption) ?_
    case hyr14 => (intro w hSw; (try dsimp only at hSw); go_simp; (try with_reducible rfl))
    try simp only [Act.put, List.setIfInBounds_toArray, List.set_cons_zero, List.set_cons_succ]
    refine takeL0 (i := 4) (v := ?vr15) rfl rfl (by kernel_rfl) (by kernel_rfl) (by kernel_rfl) (by decide) (by kernel_rfl) (by kernel_rfl) (fun _ _ _ h => h) (Or.inl ⟨by rfl, ?hyr15⟩) (by assumption) ?_
    case hyr15 => (intro w hSw; (try dsimp only at hSw); go_simp; (try with_reducible rfl))
    try simp only [Act.put, List.setIfInBounds_toArray, List.set_cons_zero, List.set_cons_succ]
    refine readyL (rs := [5, 9]) (by kernel_rfl) (by simp) ?_
    refine AllReadyL.cons rfl (fun K hK => ?_) ?_
    · go_simp
      refine (ci_from HIH.out (W0 := wu) (below_drew wu) HP.out.1 HP.out.2.1 HP.out.2.2.1 HP.out.2.2.2.1 HP.out.2.2.2.2 (HTA.out.below HBU.out) (Hhb1.out.below HBU.out)).mono ?_
      rintro e w1 ⟨⟨p0, p1, p2, pa, pn, pc, rfl, hb1, hO⟩, hU⟩
      have hB1 := below_trans hU hb1
      have hU1 := hU.size
      refine hK.out _ _ ?_ (fun hS1 => ?_)
      · exact ⟨trivial, fun _ => HSu.out _ hB1⟩
      clear hK K hS0
      try simp only [Act.put, List.setIfInBounds_toArray, List.set_cons_zero, List.set_cons_succ]
      refine takeL0 (i := 6) (v := ?vr16) rfl rfl (by kernel_rfl) (by kernel_rfl) (by kernel_rfl) (by decide) (by kernel_rfl) (by kernel_rfl) (fun _ _ _ h => h) (Or.inl ⟨by rfl, ?hyr16⟩) (by assumption) ?_
      case hyr16 => (intro w hSw; (try dsimp only at hSw); go_simp; (try with_reducible rfl))
      try simp only [Act.put, List.setIfInBounds_toArray, List.set_cons_zero, List.set_cons_succ]
      refine readyL (rs := [7, 8, 9]) (by kernel_rfl) (by simp) ?_
      refine AllReadyL.cons rfl (fun K hK => ?_) ?_
      · go_simp
        refine hK.out _ _ ?_ (fun hS2 => ?_)
        · exact ⟨trivial, fun _ => HSu.out _ hB1⟩
        clear hK K hS1
        try simp only [Act.put, List.setIfInBounds_toArray, List.set_cons_zero, List.set_cons_succ]
        refine readyL (rs := [8, 9]) (by kernel_rfl) (by simp) ?_
        refine AllReadyL.cons rfl (fun K hK => ?_) ?_
        · go_simp
          refine hK.out _ _ ?_ (fun hS3 => ?_)
          · exact ⟨trivial, fun _ => HSu.out _ hB1⟩
          clear hK K hS2
          try simp only [Act.put, List.setIfInBounds_toArray, List.set_cons_zero, List.set_cons_succ]
          refine readyL (rs := [9]) (by kernel_rfl) (by simp) ?_
          refine AllReadyL.cons rfl (fun K hK => ?_) AllReadyL.nil
          go_simp
          refine hK.out _ _ ?_ (fun hS4 => ?_)
          · exact ⟨trivial, fun _ => HSu.out _ (hB1.alloc hB1.size _)⟩
          clear hK K hS3
          try simp only [Act.put, List.setIfInBounds_toArray, List.set_cons_zero, List.set_cons_succ]
          refine readyL (rs := [10]) (by kernel_rfl) (by simp) ?_
          refine AllReadyL.cons rfl (fun K hK => ?_) AllReadyL.nil
          go_simp
          refine hK.out _ _ ?_ (fun hS5 => ?_)
          · exact ⟨trivial, fun h => absurd (h.symm.trans (show _ = true by kernel_rfl)) (by decide)⟩
          clear hK K hS4
          try simp only [Act.put, List.setIfInBounds_toArray, List.set_cons_zero, List.set_cons_succ]
          refine readyL (rs := [11]) (by kernel_rfl) (by simp) ?_
          refine AllReadyL.cons rfl (fun K hK => ?_) AllReadyL.nil
          go_simp
          refine hK.out _ _ ?_ (fun hS6 => ?_)
          · exact ⟨trivial, fun h => absurd (h.symm.trans (show _ = true by kernel_rfl)) (by decide)⟩
          clear hK K hS5
          try simp only [Act.put, List.setIfInBounds_toArray, List.set_cons_zero, List.set_cons_succ]
          refine doneL (by kernel_rfl) ?_ _
          go_wp2_with fail
          go_meet
          exact cutL_alloc hO hU1 hB1
        refine AllReadyL.cons rfl (fun K hK => ?_) AllReadyL.nil
        go_simp
        refine hK.out _ _ ?_ (fun hS3 => ?_)
        · exact ⟨trivial, fun _ => HSu.out _ (hB1.alloc hB1.size _)⟩
        clear hK K hS2
        try simp only [Act.put, List.setIfInBounds_toArray, List.set_cons_zero, List.set_cons_succ]
        refine readyL (rs := [8, 10]) (by kernel_rfl) (by simp) ?_
        refine AllReadyL.cons rfl (fun K hK => ?_) ?_
        · go_simp
          refine hK.out _ _ ?_ (fun hS4 => ?_)
          · exact ⟨trivial, fun _ => HSu.out _ (hB1.alloc hB1.size _)⟩
          clear hK K hS3
          try simp only [Act.put, List.setIfInBounds_toArray, List.set_cons_zero, List.set_cons_succ]
          refine readyL (rs := [10]) (by kernel_rfl) (by simp) ?_
          refine AllReadyL.cons rfl (fun K hK => ?_) AllReadyL.nil
          go_simp
          refine hK.out _ _ ?_ (fun hS5 => ?_)
          · exact ⟨trivial, fun h => absurd (h.symm.trans (show _ = true by kernel_rfl)) (by decide)⟩
          clear hK K hS4
          try simp only [Act.put, List.setIfInBounds_toArray, List.set_cons_zero, List.set_cons_succ]
          refine readyL (rs := [11]) (by kernel_rfl) (by simp) ?_
          refine AllReadyL.cons rfl (fun K hK => ?_) AllReadyL.nil
          go_simp
          refine hK.out _ _ ?_ (fun hS6 => ?_)
          · exact ⟨trivial, fun h => absurd (h.symm.trans (show _ = true by kernel_rfl)) (by decide)⟩
          clear hK K hS5
          try simp only [Act.put, List.setIfInBounds_toArray, List.set_cons_zero, List.set_cons_succ]
          refine doneL (by kernel_rfl) ?_ _
          go_wp2_with fail
          go_meet
          exact cutL_alloc hO hU1 hB1
        refine AllReadyL.cons rfl (fun K hK => ?_) AllReadyL.nil
        go_simp
        refine hK.out _ _ ?_ (fun hS4 => ?_)
        · exact ⟨trivial, fun h => absurd (h.symm.trans (show _ = true by kernel_rfl)) (by decide)⟩
        clear hK K hS3
        try simp only [Act.put, List.setIfInBounds_toArray, List.set_cons_zero, List.set_cons_succ]
        refine readyL (rs := [8]) (by kernel_rfl) (by simp) ?_
        refine AllReadyL.cons rfl (fun K hK => ?_) AllReadyL.nil
        go_simp
        refine hK.out _ _ ?_ (fun hS5 => ?_)
        · exact ⟨trivial, fun h => absurd (h.symm.trans (show _ = true by kernel_rfl)) (by decide)⟩
        clear hK K hS4
        try simp only [Act.put, List.setIfInBounds_toArray, List.set_cons_zero, List.set_cons_succ]
        refine readyL (rs := [11]) (by kernel_rfl) (by simp) ?_
        refine AllReadyL.cons rfl (fun K hK => ?_) AllReadyL.nil
        go_simp
        refine hK.out _ _ ?_ (fun hS6 => ?_)
        · exact ⟨trivial, fun h => absurd (h.symm.trans (show _ = true by kernel_rfl)) (by decide)⟩
        clear hK K hS5
        try simp only [Act.put, List.setIfInBounds_toArray, List.set_cons_zero, List.set_cons_succ]
        refine doneL (by kernel_rfl) ?_ _
        go_wp2_with fail
        go_meet
        exact cutL_alloc hO hU1 hB1
      refine AllReadyL.cons rfl (fun K hK => ?_) ?_
      · go_simp
        refine hK.out _ _ ?_ (fun hS2 => ?_)
        · exact ⟨trivial, fun _ => HSu.out _ hB1⟩
        clear hK K hS1
        try simp only [Act.put, List.setIfInBounds_toArray, List.set_cons_zero, List.set_cons_succ]
        refine readyL (rs := [7, 9]) (by kernel_rfl) (by simp) ?_
        refine AllReadyL.cons rfl (fun K hK => ?_) ?_
        · go_simp
          refine hK.out _ _ ?_ (fun hS3 => ?_)
          · exact ⟨trivial, fun _ => HSu.out _ hB1⟩
          clear hK K hS2
          try simp only [Act.put, List.setIfInBounds_toArray, List.set_cons_zero, List.set_cons_succ]
          refine readyL (rs := [9]) (by kernel_rfl) (by simp) ?_
          refine AllReadyL.cons rfl (fun K hK => ?_) AllReadyL.nil
          go_simp
          refine hK.out _ _ ?_ (fun hS4 => ?_)
          · exact ⟨trivial, fun _ => HSu.out _ (hB1.alloc hB1.size _)⟩
          clear hK K hS3
          try simp only [Act.put, List.setIfInBounds_toArray, List.set_cons_zero, List.set_cons_succ]
          refine readyL (rs := [10]) (by kernel_rfl) (by simp) ?_
          refine AllReadyL.cons rfl (fun K hK => ?_) AllReadyL.nil
          go_simp
          refine hK.out _ _ ?_ (fun hS5 => ?_)
          · exact ⟨trivial, fun h => absurd (h.symm.trans (show _ = true by kernel_rfl)) (by decide)⟩
          clear hK K hS4
          try simp only [Act.put, List.setIfInBounds_toArray, List.set_cons_zero, List.set_cons_succ]
          refine readyL (rs := [11]) (by kernel_rfl) (by simp) ?_
          refine AllReadyL.cons rfl (fun K hK => ?_) AllReadyL.nil
          go_simp
          refine hK.out _ _ ?_ (fun hS6 => ?_)
          · exact ⟨trivial, fun h => absurd (h.symm.trans (show _ = true by kernel_rfl)) (by decide)⟩
          clear hK K hS5
          try simp only [Act.put, List.setIfInBounds_toArray, List.set_cons_zero, List.set_cons_succ]
          refine doneL (by kernel_rfl) ?_ _
          go_wp2_with fail
          go_meet
          exact cutL_alloc hO hU1 hB1
        refine AllReadyL.cons rfl (fun K hK => ?_) AllReadyL.nil
        go_simp
        refine hK.out _ _ ?_ (fun hS3 => ?_)
        · exact ⟨trivial, fun _ => HSu.out _ (hB1.alloc hB1.size _)⟩
        clear hK K hS2
        try simp only [Act.put, List.setIfInBounds_toArray, List.set_cons_zero, List.set_cons_succ]
        refine readyL (rs := [7]) (by kernel_rfl) (by simp) ?_
        refine AllReadyL.cons rfl (fun K hK => ?_) AllReadyL.nil
        go_simp
        refine hK.out _ _ ?_ (fun hS4 => ?_)
        · exact ⟨trivial, fun _ => HSu.out _ (hB1.alloc hB1.size _)⟩
        clear hK K hS3
        try simp only [Act.put, List.setIfInBounds_toArray, List.set_cons_zero, List.set_cons_succ]
        refine readyL (rs := [10]) (by kernel_rfl) (by simp) ?_
        refine AllReadyL.cons rfl (fun K hK => ?_) AllReadyL.nil
        go_simp
        refine hK.out _ _ ?_ (fun hS5 => ?_)
        · exact ⟨trivial, fun h => absurd (h.symm.trans (show _ = true by kernel_rfl)) (by decide)⟩
        clear hK K hS4
        try simp only [Act.put, List.setIfInBounds_toArray, List.set_cons_zero, List.set_cons_succ]
        refine readyL (rs := [11]) (by kernel_rfl) (by simp) ?_
        refine AllReadyL.cons rfl (fun K hK => ?_) AllReadyL.nil
        go_simp
        refine hK.out _ _ ?_ (fun hS6 => ?_)
        · exact ⟨trivial, fun h => absurd (h.symm.trans (show _ = true by kernel_rfl)) (by decide)⟩
        clear hK K hS5
        try simp only [Act.put, List.setIfInBounds_toArray, List.set_cons_zero, List.set_cons_succ]
        refine doneL (by kernel_rfl) ?_ _
        go_wp2_with fail
        go_meet
        exact cutL_alloc hO hU1 hB1
      refine AllReadyL.cons rfl (fun K hK => ?_) AllReadyL.nil
      go_simp
      refine hK.out _ _ ?_ (fun hS2 => ?_)
      · exact ⟨trivial, fun _ => HSu.out _ (hB1.alloc hB1.size _)⟩
      clear hK K hS1
      try simp only [Act.put, List.setIfInBounds_toArray, List.set_cons_zero, List.set_cons_succ]
      refine readyL (rs := [7, 8]) (by kernel_rfl) (by simp) ?_
      refine AllReadyL.cons rfl (fun K hK => ?_) ?_
      · go_simp
        refine hK.out _ _ ?_ (fun hS3 => ?_)
        · exact ⟨trivial, fun _ => HSu.out _ (hB1.alloc hB1.size _)⟩
        clear hK K hS2
        try simp only [Act.put, List.setIfInBounds_toArray, List.set_cons_zero, List.set_cons_succ]
        refine readyL (rs := [8, 10]) (by kernel_rfl) (by simp) ?_
        refine AllReadyL.cons rfl (fun K hK => ?_) ?_
        · go_simp
          refine hK.out _ _ ?_ (fun hS4 => ?_)
          · exact ⟨trivial, fun _ => HSu.out _ (hB1.alloc hB1.size _)⟩
          clear hK K hS3
          try simp only [Act.put, List.setIfInBounds_toArray, List.set_cons_zero, List.set_cons_succ]
          refine readyL (rs := [10]) (by kernel_rfl) (by simp) ?_
          refine AllReadyL.cons rfl (fun K hK => ?_) AllReadyL.nil
          go_simp
          refine hK.out _ _ ?_ (fun hS5 => ?_)
          · exact ⟨trivial, fun h => absurd (h.symm.trans (show _ = true by kernel_rfl)) (by decide)⟩
          clear hK K hS4
          try simp only [Act.put, List.setIfInBounds_toArray, List.set_cons_zero, List.set_cons_succ]
          refine readyL (rs := [11]) (by kernel_rfl) (by simp) ?_
          refine AllReadyL.cons rfl (fun K hK => ?_) AllReadyL.nil
          go_simp
          refine hK.out _ _ ?_ (fun hS6 => ?_)
          · exact ⟨trivial, fun h => absurd (h.symm.trans (show _ = true by kernel_rfl)) (by decide)⟩
          clear hK K hS5
          try simp only [Act.put, List.setIfInBounds_toArray, List.set_cons_zero, List.set_cons_succ]
          refine doneL (by kernel_rfl) ?_ _
          go_wp2_with fail
          go_meet
          exact cutL_alloc hO hU1 hB1
        refine AllReadyL.cons rfl (fun K hK => ?_) AllReadyL.nil
        go_simp
        refine hK.out _ _ ?_ (fun hS4 => ?_)
        · exact ⟨trivial, fun h => absurd (h.symm.trans (show _ = true by kernel_rfl)) (by decide)⟩
        clear hK K hS3
        try simp only [Act.put, List.setIfInBounds_toArray, List.set_cons_zero, List.set_cons_succ]
        refine readyL (rs := [8]) (by kernel_rfl) (by simp) ?_
        refine AllReadyL.cons rfl (fun K hK => ?_) AllReadyL.nil
        go_simp
        refine hK.out _ _ ?_ (fun hS5 => ?_)
        · exact ⟨trivial, fun h => absurd (h.symm.trans (show _ = true by kernel_rfl)) (by decide)⟩
        clear hK K hS4
        try simp only [Act.put, List.setIfInBounds_toArray, List.set_cons_zero, List.set_cons_succ]
        refine readyL (rs := [11]) (by kernel_rfl) (by simp) ?_
        refine AllReadyL.cons rfl (fun K hK => ?_) AllReadyL.nil
        go_simp
        refine hK.out _ _ ?_ (fun hS6 => ?_)
        · exact ⟨trivial, fun h => absurd (h.symm.trans (show _ = true by kernel_rfl)) (by decide)⟩
        clear hK K hS5
        try simp only [Act.put, List.setIfInBounds_toArray, List.set_cons_zero, List.set_cons_succ]
        refine doneL (by kernel_rfl) ?_ _
        go_wp2_with fail
        go_meet
        exact cutL_alloc hO hU1 hB1
      refine AllReadyL.cons rfl (fun K hK => ?_) AllReadyL.nil
      go_simp
      refine hK.out _ _ ?_ (fun hS3 => ?_)
      · exact ⟨trivial, fun _ => HSu.out _ (hB1.alloc hB1.size _)⟩
      clear hK K hS2
      try simp only [Act.put, List.setIfInBounds_toArray, List.set_cons_zero, List.set_cons_succ]
      refine readyL (rs := [7]) (by kernel_rfl) (by simp) ?_
      refine AllReadyL.cons rfl (fun K hK => ?_) AllReadyL.nil
      go_simp
      refine hK.out _ _ ?_ (fun hS4 => ?_)
      · exact ⟨trivial, fun _ => HSu.out _ (hB1.alloc hB1.size _)⟩
      clear hK K hS3
      try simp only [Act.put, List.setIfInBounds_toArray, List.set_cons_zero, List.set_cons_succ]
      refine readyL (rs := [10]) (by kernel_rfl) (by simp) ?_
      refine AllReadyL.cons rfl (fun K hK => ?_) AllReadyL.nil
      go_simp
      refine hK.out _ _ ?_ (fun hS5 => ?_)
      · exact ⟨trivial, fun h => absurd (h.symm.trans (show _ = true by kernel_rfl)) (by decide)⟩
      clear hK K hS4
      try simp only [Act.put, List.setIfInBounds_toArray, List.set_cons_zero, List.set_cons_succ]
      refine readyL (rs := [11]) (by kernel_rfl) (by simp) ?_
      refine AllReadyL.cons rfl (fun K hK => ?_) AllReadyL.nil
      go_simp
      refine hK.out _ _ ?_ (fun hS6 => ?_)
      · exact ⟨trivial, fun h => absurd (h.symm.trans (show _ = true by kernel_rfl)) (by decide)⟩
      clear hK K hS5
      try simp only [Act.put, List.setIfInBounds_toArray, List.set_cons_zero, List.set_cons_succ]
      refine doneL (by kernel_rfl) ?_ _
      go_wp2_with fail
      go_meet
      exact cutL_alloc hO hU1 hB1
    refine AllReadyL.cons rfl (fun K hK => ?_) AllReadyL.nil
    go_simp
    refine hK.out _ _ ?_ (fun hS1 => ?_)
    · exact ⟨trivial, fun _ => HSu.out _ ((below_drew _).alloc (by simp) _)⟩
    clear hK K hS0
    try simp only [Act.put, List.setIfInBounds_toArray, List.set_cons_zero, List.set_cons_succ]
    refine readyL (rs := [5]) (by kernel_rfl) (by simp) ?_
    refine AllReadyL.cons rfl (fun K hK => ?_) AllReadyL.nil
    go_simp
    refine (ci_from HIH.out (W0 := wu) (((Below.refl (wu).heap.size wu).alloc (Nat.le_refl _) (Obj.cells #[.int .i64 0, .int .i64 0, .int .i64 0, .slice none 0 0] 30)).drew) HP.out.1 HP.out.2.1 HP.out.2.2.1 HP.out.2.2.2.1 HP.out.2.2.2.2 (HTA.out.below HBU.out) (Hhb1.out.below HBU.out)).mono ?_
    rintro e w1 ⟨⟨p0, p1, p2, pa, pn, pc, rfl, hb1, hO⟩, hU⟩
    have hB1 := below_trans hU hb1
    have hU1 := hU.size
    refine hK.out _ _ ?_ (fun hS2 => ?_)
    · exact ⟨trivial, fun _ => HSu.out _ hB1⟩
    clear hK K hS1
    try simp only [Act.put, List.setIfInBounds_toArray, List.set_cons_zero, List.set_cons_succ]
    refine takeL0 (i := 6) (v := ?vr17) rfl rfl (by kernel_rfl) (by kernel_rfl) (by kernel_rfl) (by decide) (by kernel_rfl) (by kernel_rfl) (fun _ _ _ h => h) (Or.inl ⟨by rfl, ?hyr17⟩) (by assumption) ?_
    case hyr17 => (intro w hSw; (try dsimp only at hSw); go_simp; (try with_reducible rfl))
    try simp only [Act.put, List.setIfInBounds_toArray, List.set_cons_zero, List.set_cons_succ]
    refine readyL (rs := [7, 8]) (by kernel_rfl) (by simp) ?_
    refine AllReadyL.cons rfl (fun K hK => ?_) ?_
    · go_simp
      refine hK.out _ _ ?_ (fun hS3 => ?_)
      · exact ⟨trivial, fun _ => HSu.out _ hB1⟩
      clear hK K hS2
      try simp only [Act.put, List.setIfInBounds_toArray, List.set_cons_zero, List.set_cons_succ]
      refine readyL (rs := [8, 10]) (by kernel_rfl) (by simp) ?_
      refine AllReadyL.cons rfl (fun K hK => ?_) ?_
      · go_simp
        refine hK.out _ _ ?_ (fun hS4 => ?_)
        · exact ⟨trivial, fun _ => HSu.out _ hB1⟩
        clear hK K hS3
        try simp only [Act.put, List.setIfInBounds_toArray, List.set_cons_zero, List.set_cons_succ]
        refine readyL (rs := [10]) (by kernel_rfl) (by simp) ?_
        refine AllReadyL.cons rfl (fun K hK => ?_) AllReadyL.nil
        have hE1 := (hb1.block _ (by simp [World.drew])).trans (alloc_new wu (Obj.cells #[.int .i64 0, .int .i64 0, .int .i64 0, .slice none 0 0] 30))
        have bM := hE1
        have z0 := (cell_of_block (o := 0) bM).trans (show _ = some (.int .i64 0) from rfl)
        have z1 := (cell_of_block (o := 1) bM).trans (show _ = some (.int .i64 0) from rfl)
        have z2 := (cell_of_block (o := 2) bM).trans (show _ = some (.int .i64 0) from rfl)
        have z3 := (cell_of_block (o := 3) bM).trans (show _ = some (.slice none 0 0) from rfl)
        have yz := fun o => frozen_of_block (o := o) bM
        go_simp
        refine hK.out _ _ ?_ (fun hS5 => ?_)
        · exact ⟨trivial, fun h => absurd (h.symm.trans (show _ = true by kernel_rfl)) (by decide)⟩
        clear hK K hS4
        try simp only [Act.put, List.setIfInBounds_toArray, List.set_cons_zero, List.set_cons_succ]
        refine readyL (rs := [11]) (by kernel_rfl) (by simp) ?_
        refine AllReadyL.cons rfl (fun K hK => ?_) AllReadyL.nil
        go_simp
        refine hK.out _ _ ?_ (fun hS6 => ?_)
        · exact ⟨trivial, fun h => absurd (h.symm.trans (show _ = true by kernel_rfl)) (by decide)⟩
        clear hK K hS5
        try simp only [Act.put, List.setIfInBounds_toArray, List.set_cons_zero, List.set_cons_succ]
        refine doneL (by kernel_rfl) ?_ _
        go_wp2_with fail
        go_meet
        exact cutL_stores hE1 hO (fun x hx => by have := (fun x hx => Nat.lt_of_lt_of_le ((List.mem_append.1 hx).elim (HTA.out.lt x) (Hhb1.out.lt x)) HZU.out) x hx; omega) (by simp [World.drew] at hU1 ⊢) hB1
      refine AllReadyL.cons rfl (fun K hK => ?_) AllReadyL.nil
      have hE1 := (hb1.block _ (by simp [World.drew])).trans (alloc_new wu (Obj.cells #[.int .i64 0, .int .i64 0, .int .i64 0, .slice none 0 0] 30))
      have bM := hE1
      have z0 := (cell_of_block (o := 0) bM).trans (show _ = some (.int .i64 0) from rfl)
      have z1 := (cell_of_block (o := 1) bM).trans (show _ = some (.int .i64 0) from rfl)
      have z2 := (cell_of_block (o := 2) bM).trans (show _ = some (.int .i64 0) from rfl)
      have z3 := (cell_of_block (o := 3) bM).trans (show _ = some (.slice none 0 0) from rfl)
      have yz := fun o => frozen_of_block (o := o) bM
      go_simp
      refine hK.out _ _ ?_ (fun hS4 => ?_)
      · exact ⟨trivial, fun h => absurd (h.symm.trans (show _ = true by kernel_rfl)) (by decide)⟩
      clear hK K hS3
      try simp only [Act.put, List.setIfInBounds_toArray, List.set_cons_zero, List.set_cons_succ]
      refine readyL (rs := [8]) (by kernel_rfl) (by simp) ?_
      refine AllReadyL.cons rfl (fun K hK => ?_) AllReadyL.nil
      go_simp
      refine hK.out _ _ ?_ (fun hS5 => ?_)
      · exact ⟨trivial, fun h => absurd (h.symm.trans (show _ = true by kernel_rfl)) (by decide)⟩
      clear hK K hS4
      try simp only [Act.put, List.setIfInBounds_toArray, List.set_cons_zero, List.set_cons_succ]
      refine readyL (rs := [11]) (by kernel_rfl) (by simp) ?_
      refine AllReadyL.cons rfl (fun K hK => ?_) AllReadyL.nil
      go_simp
      refine hK.out _ _ ?_ (fun hS6 => ?_)
      · exact ⟨trivial, fun h => absurd (h.symm.trans (show _ = true by kernel_rfl)) (by decide)⟩
      clear hK K hS5
      try simp only [Act.put, List.setIfInBounds_toArray, List.set_cons_zero, List.set_cons_succ]
      refine doneL (by kernel_rfl) ?_ _
      go_wp2_with fail
      go_meet
      exact cutL_stores hE1 hO (fun x hx => by have := (fun x hx => Nat.lt_of_lt_of_le ((List.mem_append.1 hx).elim (HTA.out.lt x) (Hhb1.out.lt x)) HZU.out) x hx; omega) (by simp [World.drew] at hU1 ⊢) hB1
    refine AllReadyL.cons rfl (fun K hK => ?_) AllReadyL.nil
    go_simp
    refine hK.out _ _ ?_ (fun hS3 => ?_)
    · exact ⟨trivial, fun _ => HSu.out _ hB1⟩
    clear hK K hS2
    try simp only [Act.put, List.setIfInBounds_toArray, List.set_cons_zero, List.set_cons_succ]
    refine readyL (rs := [7]) (by kernel_rfl) (by simp) ?_
    refine AllReadyL.cons rfl (fun K hK => ?_) AllReadyL.nil
    go_simp
    refine hK.out _ _ ?_ (fun hS4 => ?_)
    · exact ⟨trivial, fun _ => HSu.out _ hB1⟩
    clear hK K hS3
    try simp only [Act.put, List.setIfInBounds_toArray, List.set_cons_zero, List.set_cons_succ]
    refine readyL (rs := [10]) (by kernel_rfl) (by simp) ?_
    refine AllReadyL.cons rfl (fun K hK => ?_) AllReadyL.nil
    have hE1 := (hb1.block _ (by simp [World.drew])).trans (alloc_new wu (Obj.cells #[.int .i64 0, .int .i64 0, .int .i64 0, .slice none 0 0] 30))
    have bM := hE1
    have z0 := (cell_of_block (o := 0) bM).trans (show _ = some (.int .i64 0) from rfl)
    have z1 := (cell_of_block (o := 1) bM).trans (show _ = some (.int .i64 0) from rfl)
    have z2 := (cell_of_block (o := 2) bM).trans (show _ = some (.int .i64 0) from rfl)
    have z3 := (cell_of_block (o := 3) bM).trans (show _ = some (.slice none 0 0) from rfl)
    have yz := fun o => frozen_of_block (o := o) bM
    go_simp
    refine hK.out _ _ ?_ (fun hS5 => ?_)
    · exact ⟨trivial, fun h => absurd (h.symm.trans (show _ = true by kernel_rfl)) (by decide)⟩
    clear hK K hS4
    try simp only [Act.put, List.setIfInBounds_toArray, List.set_cons_zero, List.set_cons_succ]
    refine readyL (rs := [11]) (by kernel_rfl) (by simp) ?_
    refine AllReadyL.cons rfl (fun K hK => ?_) AllReadyL.nil
    go_simp
    refine hK.out _ _ ?_ (fun hS6 => ?_)
    · exact ⟨trivial, fun h => absurd (h.symm.trans (show _ = true by kernel_rfl)) (by decide)⟩
    clear hK K hS5
    try simp only [Act.put, List.setIfInBounds_toArray, List.set_cons_zero, List.set_cons_succ]
    refine doneL (by kernel_rfl) ?_ _
    go_wp2_with fail
    go_meet
    exact cutL_stores hE1 hO (fun x hx => by have := (fun x hx => Nat.lt_of_lt_of_le ((List.mem_append.1 hx).elim (HTA.out.lt x) (Hhb1.out.lt x)) HZU.out) x hx; omega) (by simp [World.drew] at hU1 ⊢) hB1
  case rest =>
  obtain ⟨bx, r, pk, pg, pl, pa, pn, pc, rfl, rfl, hr, hbx, hEx, hLx, hbz⟩ := hcut
  have hB := below_trans HBU.out hbz
  have hSS := HS0.out _ hB
  clear x0 x1 x2 x3 y0 y1 y2 y3 e0 e1 e2 e3
  obtain ⟨x0, x1, x2, x3, y0, y1, y2, y3, e0, e1, e2, e3⟩ := hSS
  have p0 : wc.cell? ⟨bx, 0, none⟩ = some (.int .i64 pk) := by rw [cell_of_block hEx]; rfl
  have p1 : wc.cell? ⟨bx, 1, none⟩ = some (.int .i64 pg) := by rw [cell_of_block hEx]; rfl
  have p2 : wc.cell? ⟨bx, 2, none⟩ = some (.int .i64 pl) := by rw [cell_of_block hEx]; rfl
  have p3 : wc.cell? ⟨bx, 3, none⟩ = some (.slice pa pn pc) := by rw [cell_of_block hEx]; rfl
  have hal : Below wc.heap.size wc (wc.alloc (Obj.cells #[.int .i64 pk, .int .i64 pg, .int .i64 pl, .slice pa pn pc] 30)) := (Below.refl _ _).alloc (Nat.le_refl _) _
  go_wp2_with fail
  refine (coercionOf_any _ _ _ _ _).mono ?_
  rintro e w3 ⟨rfl, hb3⟩
  have hb3' := below_trans hal hb3
  have hB3 := below_trans hB hb3'
  have hEq := (hb3.block _ (lt_of_block (alloc_new wc (Obj.cells #[.int .i64 pk, .int .i64 pg, .int .i64 pl, .slice pa pn pc] 30)))).trans (alloc_new wc (Obj.cells #[.int .i64 pk, .int .i64 pg, .int .i64 pl, .slice pa pn pc] 30))
  have HLX := hid (hLx.below hb3')
  have hR : ((cmpo n (.mk ka ga la ts) b1).map fun c => Co.mk 4 0 0 [c]).isSome = r := by rw [Option.isSome_map]; exact hr
  have hLF : Lft (fa ++ fb) Z.heap.size ((cmpo n (.mk ka ga la ts) b1).map fun c => Co.mk 4 0 0 [c]) (.agg #[.int .i64 4, .int .i64 0, .int .i64 0, .slice (some ⟨wc.heap.size, 0, none⟩) 1 1]) w3 := fun c hc => by
    obtain ⟨c', hc', rfl⟩ := Option.map_eq_some_iff.1 hc
    obtain ⟨fp, hat, hfp⟩ := HLX.out c' hc'
    refine ⟨_, co_one hEq hat, fun x hx => ?_⟩
    rcases List.mem_cons.1 hx with rfl | hx
    · exact .inr hB.size
    · rcases hfp x hx with h | h
      · rcases List.mem_append.1 h with h | h
        · exact .inl (by simp [h])
        · exact .inl (by rw [HF.out]; simp [h])
      · exact .inr (Nat.le_trans HZU.out h)
  clear hEx hLx hEq p0 p1 p2 p3
  have bM := (hB3.block (w.heap.size + 1 + 1) (by have := HZS.out; omega)).trans HBZ.out
  have z0 := (cell_of_block (o := 0) bM).trans (show _ = some (.int .i64 0) from rfl)
  have z1 := (cell_of_block (o := 1) bM).trans (show _ = some (.int .i64 0) from rfl)
  have z2 := (cell_of_block (o := 2) bM).trans (show _ = some (.int .i64 0) from rfl)
  have z3 := (cell_of_block (o := 3) bM).trans (show _ = some (.slice none 0 0) from rfl)
  have yz := fun o => frozen_of_block (o := o) bM
  have FIN := closeL (k := 4) (g := 0) (l := 0) (a := (some ⟨wc.heap.size, 0, none⟩)) (n := 1) (cap := 1) (w := w) (wF := w3) (M := w.heap.size + 1 + 1) (lo := Z.heap.size) (A := fa ++ fb) (o := (cmpo n (.mk ka ga la ts) b1).map fun c => Co.mk 4 0 0 [c]) (b := r) (hR) (hLF) HA.out (by omega) (by have := HZS.out; have := (hB3).size; omega) (below_trans HB0.out hB3)
  simp only [put4, Nat.zero_add] at FIN
  go_wp2_with fail
  exact bodyPost_ret (v := .tuple #[.agg #[.int .i64 4, .int .i64 0, .int .i64 0, .slice (some ⟨wc.heap.size, 0, none⟩) 1 1], .bool (r)]) (by simp [results, Try.results59, go_sem, z0, z1, z2, z3]) rfl FIN
set_option maxRecDepth 100000 in
set_option maxHeartbeats 4000000 in
theorem compose_pl (o : Option Co) (ka ga la kb gb lb : Int) (ts us : List Co) (va vb : Value) (fa fb : List Nat) (w : World) (ih : ∀ (va vb : Value) (w : World), (Co.mk ka ga la ts).At w va fa → (Co.mk kb gb lb us).At w vb fb → Calls Try.prog 96 #[va, vb] w (MadeL w (fa ++ fb) o)) (h4 : (ka == 4) = false) (h5 : (ka == 5) = false) (h6 : (ka == 6) = false) (hu1 : (ka == 1 && ga == 1) = false) (g4 : (kb == 4) = false) (g6 : (kb == 6) = false) (hata : (Co.mk ka ga la ts).At w va fa) (hatb : (Co.mk kb gb lb us).At w vb fb) :
    Calls Try.prog 59 #[va, vb] w (MadeL w (fa ++ fb) (o)) := by
  have HA := hid (show ∀ x ∈ fa ++ fb, x < w.heap.size from fun x hx => (List.mem_append.1 hx).elim (hata.lt x) (hatb.lt x))
  have hata0 := hata
  have hatb0 := hatb
  obtain ⟨sa, rfl, hsa⟩ := Co.at_mk.1 hata
  obtain ⟨sb, rfl, hsb⟩ := Co.at_mk.1 hatb
  obtain ⟨aa, ca, rfl⟩ := hsa.shape
  generalize hlna : ts.length = na at *
  obtain ⟨ab, cb, rfl⟩ := hsb.shape
  generalize hlnb : us.length = nb at *
  have hb0 : Below w.heap.size w (((w.alloc (Obj.cells #[.int .i64 ka, .int .i64 ga, .int .i64 la, .slice aa na ca] 30)).alloc (Obj.cells #[.int .i64 kb, .int .i64 gb, .int .i64 lb, .slice ab nb cb] 30)).alloc (Obj.cells #[.int .i64 0, .int .i64 0, .int .i64 0, .slice none 0 0] 30)) := (((Below.refl _ _).alloc (Nat.le_refl _) _).alloc (by simp) _).alloc (by simp; omega) _
  have hs0 : ((((w.alloc (Obj.cells #[.int .i64 ka, .int .i64 ga, .int .i64 la, .slice aa na ca] 30)).alloc (Obj.cells #[.int .i64 kb, .int .i64 gb, .int .i64 lb, .slice ab nb cb] 30)).alloc (Obj.cells #[.int .i64 0, .int .i64 0, .int .i64 0, .slice none 0 0] 30))).heap.size = w.heap.size + 1 + 1 + 1 := by simp
  obtain ⟨bA, bB, bZ⟩ := three3 (Below.refl ((((w.alloc (Obj.cells #[.int .i64 ka, .int .i64 ga, .int .i64 la, .slice aa na ca] 30)).alloc (Obj.cells #[.int .i64 kb, .int .i64 gb, .int .i64 lb, .slice ab nb cb] 30)).alloc (Obj.cells #[.int .i64 0, .int .i64 0, .int .i64 0, .slice none 0 0] 30))).heap.size (((w.alloc (Obj.cells #[.int .i64 ka, .int .i64 ga, .int .i64 la, .slice aa na ca] 30)).alloc (Obj.cells #[.int .i64 kb, .int .i64 gb, .int .i64 lb, .slice ab nb cb] 30)).alloc (Obj.cells #[.int .i64 0, .int .i64 0, .int .i64 0, .slice none 0 0] 30)))
  have x0 : ((((w.alloc (Obj.cells #[.int .i64 ka, .int .i64 ga, .int .i64 la, .slice aa na ca] 30)).alloc (Obj.cells #[.int .i64 kb, .int .i64 gb, .int .i64 lb, .slice ab nb cb] 30)).alloc (Obj.cells #[.int .i64 0, .int .i64 0, .int .i64 0, .slice none 0 0] 30))).cell? ⟨w.heap.size, 0, none⟩ = some (.int .i64 ka) := by rw [cell_of_block bA]; rfl
  have x1 : ((((w.alloc (Obj.cells #[.int .i64 ka, .int .i64 ga, .int .i64 la, .slice aa na ca] 30)).alloc (Obj.cells #[.int .i64 kb, .int .i64 gb, .int .i64 lb, .slice ab nb cb] 30)).alloc (Obj.cells #[.int .i64 0, .int .i64 0, .int .i64 0, .slice none 0 0] 30))).cell? ⟨w.heap.size, 1, none⟩ = some (.int .i64 ga) := by rw [cell_of_block bA]; rfl
  have x2 : ((((w.alloc (Obj.cells #[.int .i64 ka, .int .i64 ga, .int .i64 la, .slice aa na ca] 30)).alloc (Obj.cells #[.int .i64 kb, .int .i64 gb, .int .i64 lb, .slice ab nb cb] 30)).alloc (Obj.cells #[.int .i64 0, .int .i64 0, .int .i64 0, .slice none 0 0] 30))).cell? ⟨w.heap.size, 2, none⟩ = some (.int .i64 la) := by rw [cell_of_block bA]; rfl
  have x3 : ((((w.alloc (Obj.cells #[.int .i64 ka, .int .i64 ga, .int .i64 la, .slice aa na ca] 30)).alloc (Obj.cells #[.int .i64 kb, .int .i64 gb, .int .i64 lb, .slice ab nb cb] 30)).alloc (Obj.cells #[.int .i64 0, .int .i64 0, .int .i64 0, .slice none 0 0] 30))).cell? ⟨w.heap.size, 3, none⟩ = some (.slice aa na ca) := by rw [cell_of_block bA]; rfl
  have y0 : ((((w.alloc (Obj.cells #[.int .i64 ka, .int .i64 ga, .int .i64 la, .slice aa na ca] 30)).alloc (Obj.cells #[.int .i64 kb, .int .i64 gb, .int .i64 lb, .slice ab nb cb] 30)).alloc (Obj.cells #[.int .i64 0, .int .i64 0, .int .i64 0, .slice none 0 0] 30))).cell? ⟨w.heap.size + 1, 0, none⟩ = some (.int .i64 kb) := by rw [cell_of_block bB]; rfl
  have y1 : ((((w.alloc (Obj.cells #[.int .i64 ka, .int .i64 ga, .int .i64 la, .slice aa na ca] 30)).alloc (Obj.cells #[.int .i64 kb, .int .i64 gb, .int .i64 lb, .slice ab nb cb] 30)).alloc (Obj.cells #[.int .i64 0, .int .i64 0, .int .i64 0, .slice none 0 0] 30))).cell? ⟨w.heap.size + 1, 1, none⟩ = some (.int .i64 gb) := by rw [cell_of_block bB]; rfl
  have y2 : ((((w.alloc (Obj.cells #[.int .i64 ka, .int .i64 ga, .int .i64 la, .slice aa na ca] 30)).alloc (Obj.cells #[.int .i64 kb, .int .i64 gb, .int .i64 lb, .slice ab nb cb] 30)).alloc (Obj.cells #[.int .i64 0, .int .i64 0, .int .i64 0, .slice none 0 0] 30))).cell? ⟨w.heap.size + 1, 2, none⟩ = some (.int .i64 lb) := by rw [cell_of_block bB]; rfl
  have y3 : ((((w.alloc (Obj.cells #[.int .i64 ka, .int .i64 ga, .int .i64 la, .slice aa na ca] 30)).alloc (Obj.cells #[.int .i64 kb, .int .i64 gb, .int .i64 lb, .slice ab nb cb] 30)).alloc (Obj.cells #[.int .i64 0, .int .i64 0, .int .i64 0, .slice none 0 0] 30))).cell? ⟨w.heap.size + 1, 3, none⟩ = some (.slice ab nb cb) := by rw [cell_of_block bB]; rfl
  have HB0 := hid hb0
  have HTA0 := hid hata0
  have HTB0 := hid hatb0
  have HBZ := hid bZ
  have HTA := hid (hata0.below hb0)
  have HTB := hid (hatb0.below hb0)
  obtain ⟨Z, hZd⟩ : ∃ Z, Z = (((w.alloc (Obj.cells #[.int .i64 ka, .int .i64 ga, .int .i64 la, .slice aa na ca] 30)).alloc (Obj.cells #[.int .i64 kb, .int .i64 gb, .int .i64 lb, .slice ab nb cb] 30)).alloc (Obj.cells #[.int .i64 0, .int .i64 0, .int .i64 0, .slice none 0 0] 30)) := ⟨_, rfl⟩
  rw [← hZd] at hb0 hs0 HB0 HBZ HTA HTB  x0 x1 x2 x3 y0 y1 y2 y3
  have HZS := hid hs0
  have HS0 := hid (show ∀ w', Below Z.heap.size Z w' → (fun w' => w'.cell? ⟨w.heap.size, 0, none⟩ = some (.int .i64 ka) ∧ w'.cell? ⟨w.heap.size, 1, none⟩ = some (.int .i64 ga) ∧ w'.cell? ⟨w.heap.size, 2, none⟩ = some (.int .i64 la) ∧ w'.cell? ⟨w.heap.size, 3, none⟩ = some (.slice aa na ca) ∧ w'.cell? ⟨w.heap.size + 1, 0, none⟩ = some (.int .i64 kb) ∧ w'.cell? ⟨w.heap.size + 1, 1, none⟩ = some (.int .i64 gb) ∧ w'.cell? ⟨w.heap.size + 1, 2, none⟩ = some (.int .i64 lb) ∧ w'.cell? ⟨w.heap.size + 1, 3, none⟩ = some (.slice ab nb cb)) w' from fun w' h => ⟨cell_keep x0 h, cell_keep x1 h, cell_keep x2 h, cell_keep x3 h, cell_keep y0 h, cell_keep y1 h, cell_keep y2 h, cell_keep y3 h⟩)
  have HZD := hid hZd
  clear hb0 hs0 bA bB bZ hata hatb hata0 hatb0 hsa hsb hZd 
  have HX := hid (fun (w' : World) (h : Below Z.heap.size Z w') => ih _ _ w' (HTA.out.below h) (HTB.out.below h))
  clear ih
  have HU := hid (isUnknownId_any _ _ _ Z HTA.out)
  rw [uid_mk, hu1] at HU
  clear hu1
  go_enter Try.func59, Try.ntmps59
  go_wp2_with fail
  rw [← HZD.out]
  refine HU.out.mono ?_
  rintro e wu ⟨rfl, hbu⟩
  have hSS := HS0.out _ hbu
  clear x0 x1 x2 x3 y0 y1 y2 y3
  obtain ⟨x0, x1, x2, x3, y0, y1, y2, y3⟩ := hSS
  have HBU := hid hbu
  have HSu := hid (show ∀ w', Below wu.heap.size wu w' → (fun w' => w'.cell? ⟨w.heap.size, 0, none⟩ = some (.int .i64 ka) ∧ w'.cell? ⟨w.heap.size, 1, none⟩ = some (.int .i64 ga) ∧ w'.cell? ⟨w.heap.size, 2, none⟩ = some (.int .i64 la) ∧ w'.cell? ⟨w.heap.size, 3, none⟩ = some (.slice aa na ca) ∧ w'.cell? ⟨w.heap.size + 1, 0, none⟩ = some (.int .i64 kb) ∧ w'.cell? ⟨w.heap.size + 1, 1, none⟩ = some (.int .i64 gb) ∧ w'.cell? ⟨w.heap.size + 1, 2, none⟩ = some (.int .i64 lb) ∧ w'.cell? ⟨w.heap.size + 1, 3, none⟩ = some (.slice ab nb cb)) w' from fun w' h => HS0.out _ (below_trans hbu h))
  have HZU := hid hbu.size
  clear hbu
  go_wp2_with fail
  refine (HX.out _ HBU.out).mono ?_
  rintro e w1 ⟨pk, pg, pl, pa, pn, pc, rfl, hb1, hL⟩
  have hB1 := below_trans HBU.out hb1
  have hUS := HBU.out.size
  generalize hr : o.isSome = r at *
  have bM := (hB1.block (w.heap.size + 1 + 1) (by have := HZS.out; omega)).trans HBZ.out
  have z0 := (cell_of_block (o := 0) bM).trans (show _ = some (.int .i64 0) from rfl)
  have z1 := (cell_of_block (o := 1) bM).trans (show _ = some (.int .i64 0) from rfl)
  have z2 := (cell_of_block (o := 2) bM).trans (show _ = some (.int .i64 0) from rfl)
  have z3 := (cell_of_block (o := 3) bM).trans (show _ = some (.slice none 0 0) from rfl)
  have yz := fun o => frozen_of_block (o := o) bM
  have FIN := closeL (k := pk) (g := pg) (l := pl) (a := pa) (n := pn) (cap := pc) (w := w) (wF := w1) (M := w.heap.size + 1 + 1) (lo := wu.heap.size) (A := fa ++ fb) (o := o) (b := r) (hr) (hL) HA.out (by omega) (by have := HZS.out; have := (hB1).size; have := HBU.out.size; omega) (below_trans HB0.out hB1)
  simp only [put4, Nat.zero_add] at FIN
  go_wp2_with fail
  exact bodyPost_ret (v := .tuple #[.agg #[.int .i64 pk, .int .i64 pg, .int .i64 pl, .slice pa pn pc], .bool (r)]) (by simp [results, Try.results59, go_sem, z0, z1, z2, z3]) rfl FIN
end Go.Proofs.Ytolhfcpmhhhjpaa
