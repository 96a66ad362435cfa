/- The program's composeAcrossUnknown. -/
import Derived.Test.YtolhfcpmhhhjpaaSG7
import Derived.Test.YtolhfcpmhhhjpaaSG1
namespace Go.Proofs.Ytolhfcpmhhhjpaa
open Go.RowKit


set_option maxRecDepth 100000 in
set_option maxHeartbeats 4000000 in
theorem across_same (n : Nat) (ih : CpiC n) (ga la gb lb : Int) (a1 b1 : Co) (d d' : Nat) (va vb : Value) (fa fb : List Nat) (w : World) (hd : d + d' ≤ n) (hd1 : d ≤ 9) (hd2 : d' ≤ 9) (hs1 : shpK d a1 = true) (hs2 : shpK d' b1 = true) (hq : tagC a1 = tagC b1) (hata : (Co.mk 4 ga la [a1]).At w va fa) (hatb : (Co.mk 5 gb lb [b1]).At w vb fb) :
    Calls Try.prog 95 #[va, vb] w (MadeL w (fa ++ fb) (cmpo n a1 b1)) := by
  have HA := hid (show ∀ x ∈ fa ++ fb, x < w.heap.size from fun x hx => (List.mem_append.1 hx).elim (hata.lt x) (hatb.lt x))
  have hata0 := hata
  have hatb0 := hatb
  obtain ⟨sa, rfl, hsa⟩ := Co.at_mk.1 hata
  obtain ⟨sb, rfl, hsb⟩ := Co.at_mk.1 hatb
  obtain ⟨ba, oa, ca, ka1, ga1, la1, na1, aa1, ca1, fa1, rfl, hba, d0, d1, d2, d3, ha1, hfa, _⟩ := hsa.one
  obtain ⟨bb, ob, cb, kb1, gb1, lb1, nb1, ab1, cb1, fb1, rfl, hbb, e0, e1, e2, e3, hb1, hfb, _⟩ := hsb.one
  have hb0 : Below w.heap.size w (((w.alloc (Obj.cells #[.int .i64 4, .int .i64 ga, .int .i64 la, .slice (some ⟨ba, oa, none⟩) 1 ca] 30)).alloc (Obj.cells #[.int .i64 5, .int .i64 gb, .int .i64 lb, .slice (some ⟨bb, ob, none⟩) 1 cb] 30)).alloc (Obj.cells #[.int .i64 0, .int .i64 0, .int .i64 0, .slice none 0 0] 30)) := (((Below.refl _ _).alloc (Nat.le_refl _) _).alloc (by simp) _).alloc (by simp; omega) _
  have hs0 : ((((w.alloc (Obj.cells #[.int .i64 4, .int .i64 ga, .int .i64 la, .slice (some ⟨ba, oa, none⟩) 1 ca] 30)).alloc (Obj.cells #[.int .i64 5, .int .i64 gb, .int .i64 lb, .slice (some ⟨bb, ob, none⟩) 1 cb] 30)).alloc (Obj.cells #[.int .i64 0, .int .i64 0, .int .i64 0, .slice none 0 0] 30))).heap.size = w.heap.size + 1 + 1 + 1 := by simp
  obtain ⟨bA, bB, bZ⟩ := three3 (Below.refl ((((w.alloc (Obj.cells #[.int .i64 4, .int .i64 ga, .int .i64 la, .slice (some ⟨ba, oa, none⟩) 1 ca] 30)).alloc (Obj.cells #[.int .i64 5, .int .i64 gb, .int .i64 lb, .slice (some ⟨bb, ob, none⟩) 1 cb] 30)).alloc (Obj.cells #[.int .i64 0, .int .i64 0, .int .i64 0, .slice none 0 0] 30))).heap.size (((w.alloc (Obj.cells #[.int .i64 4, .int .i64 ga, .int .i64 la, .slice (some ⟨ba, oa, none⟩) 1 ca] 30)).alloc (Obj.cells #[.int .i64 5, .int .i64 gb, .int .i64 lb, .slice (some ⟨bb, ob, none⟩) 1 cb] 30)).alloc (Obj.cells #[.int .i64 0, .int .i64 0, .int .i64 0, .slice none 0 0] 30)))
  have x0 : ((((w.alloc (Obj.cells #[.int .i64 4, .int .i64 ga, .int .i64 la, .slice (some ⟨ba, oa, none⟩) 1 ca] 30)).alloc (Obj.cells #[.int .i64 5, .int .i64 gb, .int .i64 lb, .slice (some ⟨bb, ob, none⟩) 1 cb] 30)).alloc (Obj.cells #[.int .i64 0, .int .i64 0, .int .i64 0, .slice none 0 0] 30))).cell? ⟨w.heap.size, 0, none⟩ = some (.int .i64 4) := by rw [cell_of_block bA]; rfl
  have x1 : ((((w.alloc (Obj.cells #[.int .i64 4, .int .i64 ga, .int .i64 la, .slice (some ⟨ba, oa, none⟩) 1 ca] 30)).alloc (Obj.cells #[.int .i64 5, .int .i64 gb, .int .i64 lb, .slice (some ⟨bb, ob, none⟩) 1 cb] 30)).alloc (Obj.cells #[.int .i64 0, .int .i64 0, .int .i64 0, .slice none 0 0] 30))).cell? ⟨w.heap.size, 1, none⟩ = some (.int .i64 ga) := by rw [cell_of_block bA]; rfl
  have x2 : ((((w.alloc (Obj.cells #[.int .i64 4, .int .i64 ga, .int .i64 la, .slice (some ⟨ba, oa, none⟩) 1 ca] 30)).alloc (Obj.cells #[.int .i64 5, .int .i64 gb, .int .i64 lb, .slice (some ⟨bb, ob, none⟩) 1 cb] 30)).alloc (Obj.cells #[.int .i64 0, .int .i64 0, .int .i64 0, .slice none 0 0] 30))).cell? ⟨w.heap.size, 2, none⟩ = some (.int .i64 la) := by rw [cell_of_block bA]; rfl
  have x3 : ((((w.alloc (Obj.cells #[.int .i64 4, .int .i64 ga, .int .i64 la, .slice (some ⟨ba, oa, none⟩) 1 ca] 30)).alloc (Obj.cells #[.int .i64 5, .int .i64 gb, .int .i64 lb, .slice (some ⟨bb, ob, none⟩) 1 cb] 30)).alloc (Obj.cells #[.int .i64 0, .int .i64 0, .int .i64 0, .slice none 0 0] 30))).cell? ⟨w.heap.size, 3, none⟩ = some (.slice (some ⟨ba, oa, none⟩) 1 ca) := by rw [cell_of_block bA]; rfl
  have y0 : ((((w.alloc (Obj.cells #[.int .i64 4, .int .i64 ga, .int .i64 la, .slice (some ⟨ba, oa, none⟩) 1 ca] 30)).alloc (Obj.cells #[.int .i64 5, .int .i64 gb, .int .i64 lb, .slice (some ⟨bb, ob, none⟩) 1 cb] 30)).alloc (Obj.cells #[.int .i64 0, .int .i64 0, .int .i64 0, .slice none 0 0] 30))).cell? ⟨w.heap.size + 1, 0, none⟩ = some (.int .i64 5) := by rw [cell_of_block bB]; rfl
  have y1 : ((((w.alloc (Obj.cells #[.int .i64 4, .int .i64 ga, .int .i64 la, .slice (some ⟨ba, oa, none⟩) 1 ca] 30)).alloc (Obj.cells #[.int .i64 5, .int .i64 gb, .int .i64 lb, .slice (some ⟨bb, ob, none⟩) 1 cb] 30)).alloc (Obj.cells #[.int .i64 0, .int .i64 0, .int .i64 0, .slice none 0 0] 30))).cell? ⟨w.heap.size + 1, 1, none⟩ = some (.int .i64 gb) := by rw [cell_of_block bB]; rfl
  have y2 : ((((w.alloc (Obj.cells #[.int .i64 4, .int .i64 ga, .int .i64 la, .slice (some ⟨ba, oa, none⟩) 1 ca] 30)).alloc (Obj.cells #[.int .i64 5, .int .i64 gb, .int .i64 lb, .slice (some ⟨bb, ob, none⟩) 1 cb] 30)).alloc (Obj.cells #[.int .i64 0, .int .i64 0, .int .i64 0, .slice none 0 0] 30))).cell? ⟨w.heap.size + 1, 2, none⟩ = some (.int .i64 lb) := by rw [cell_of_block bB]; rfl
  have y3 : ((((w.alloc (Obj.cells #[.int .i64 4, .int .i64 ga, .int .i64 la, .slice (some ⟨ba, oa, none⟩) 1 ca] 30)).alloc (Obj.cells #[.int .i64 5, .int .i64 gb, .int .i64 lb, .slice (some ⟨bb, ob, none⟩) 1 cb] 30)).alloc (Obj.cells #[.int .i64 0, .int .i64 0, .int .i64 0, .slice none 0 0] 30))).cell? ⟨w.heap.size + 1, 3, none⟩ = some (.slice (some ⟨bb, ob, none⟩) 1 cb) := by rw [cell_of_block bB]; rfl
  replace d0 := cell_keep d0 hb0
  replace d1 := cell_keep d1 hb0
  replace d2 := cell_keep d2 hb0
  replace d3 := cell_keep d3 hb0
  replace e0 := cell_keep e0 hb0
  replace e1 := cell_keep e1 hb0
  replace e2 := cell_keep e2 hb0
  replace e3 := cell_keep e3 hb0
  have HB0 := hid hb0
  have HTA0 := hid hata0
  have HTB0 := hid hatb0
  have HBZ := hid bZ
  have HTA := hid (hata0.below hb0)
  have HTB := hid (hatb0.below hb0)
  have Hha1 := hid (ha1.below hb0)
  have Hhb1 := hid (hb1.below hb0)
  obtain ⟨Z, hZd⟩ : ∃ Z, Z = (((w.alloc (Obj.cells #[.int .i64 4, .int .i64 ga, .int .i64 la, .slice (some ⟨ba, oa, none⟩) 1 ca] 30)).alloc (Obj.cells #[.int .i64 5, .int .i64 gb, .int .i64 lb, .slice (some ⟨bb, ob, none⟩) 1 cb] 30)).alloc (Obj.cells #[.int .i64 0, .int .i64 0, .int .i64 0, .slice none 0 0] 30)) := ⟨_, rfl⟩
  rw [← hZd] at hb0 hs0 HB0 HBZ HTA HTB Hha1 Hhb1 x0 x1 x2 x3 y0 y1 y2 y3 d0 d1 d2 d3 e0 e1 e2 e3
  have HZS := hid hs0
  have HS0 := hid (show ∀ w', Below Z.heap.size Z w' → (fun w' => w'.cell? ⟨w.heap.size, 0, none⟩ = some (.int .i64 4) ∧ w'.cell? ⟨w.heap.size, 1, none⟩ = some (.int .i64 ga) ∧ w'.cell? ⟨w.heap.size, 2, none⟩ = some (.int .i64 la) ∧ w'.cell? ⟨w.heap.size, 3, none⟩ = some (.slice (some ⟨ba, oa, none⟩) 1 ca) ∧ w'.cell? ⟨w.heap.size + 1, 0, none⟩ = some (.int .i64 5) ∧ w'.cell? ⟨w.heap.size + 1, 1, none⟩ = some (.int .i64 gb) ∧ w'.cell? ⟨w.heap.size + 1, 2, none⟩ = some (.int .i64 lb) ∧ w'.cell? ⟨w.heap.size + 1, 3, none⟩ = some (.slice (some ⟨bb, ob, none⟩) 1 cb) ∧ w'.cell? ⟨ba, oa, none⟩ = some (.int .i64 ka1) ∧ w'.cell? ⟨ba, oa + 1, none⟩ = some (.int .i64 ga1) ∧ w'.cell? ⟨ba, oa + 2, none⟩ = some (.int .i64 la1) ∧ w'.cell? ⟨ba, oa + 3, none⟩ = some (.slice aa1 na1 ca1) ∧ w'.cell? ⟨bb, ob, none⟩ = some (.int .i64 kb1) ∧ w'.cell? ⟨bb, ob + 1, none⟩ = some (.int .i64 gb1) ∧ w'.cell? ⟨bb, ob + 2, none⟩ = some (.int .i64 lb1) ∧ w'.cell? ⟨bb, ob + 3, none⟩ = some (.slice ab1 nb1 cb1)) w' from fun w' h => ⟨cell_keep x0 h, cell_keep x1 h, cell_keep x2 h, cell_keep x3 h, cell_keep y0 h, cell_keep y1 h, cell_keep y2 h, cell_keep y3 h, cell_keep d0 h, cell_keep d1 h, cell_keep d2 h, cell_keep d3 h, cell_keep e0 h, cell_keep e1 h, cell_keep e2 h, cell_keep e3 h⟩)
  have HZD := hid hZd
  clear hb0 hs0 bA bB bZ hata hatb hata0 hatb0 hsa hsb hZd ha1 hb1
  have HP := hid (And.intro hd (And.intro hd1 (And.intro hd2 (And.intro hs1 hs2))))
  have HIH := hid ih
  have HF := hid (And.intro hfa hfb)
  have HT1 := hid (tagWf_shp hs1)
  have HT2 := hid (tagWf_shp hs2)
  have HQ := hid (show (tagC a1 == tagC b1) = true by simpa using hq)
  have HT3 := hid (show tagWf (d + 1) (Co.mk 4 ga la [a1]) = true by simp only [tagWf, if_pos]; exact HT1.out)
  have HT4 := hid (show tagC (Co.mk 4 ga la [a1]) = tagC a1 by simp [tagC, tagL])
  clear hd hd1 hd2 hs1 hs2 ih hfa hfb hq
  go_enter Try.func95, Try.ntmps95
  go_wp2_with fail
  rw [← HZD.out]
  refine regionL (s := 9) (S0 := (fun w' => w'.cell? ⟨w.heap.size, 0, none⟩ = some (.int .i64 4) ∧ w'.cell? ⟨w.heap.size, 1, none⟩ = some (.int .i64 ga) ∧ w'.cell? ⟨w.heap.size, 2, none⟩ = some (.int .i64 la) ∧ w'.cell? ⟨w.heap.size, 3, none⟩ = some (.slice (some ⟨ba, oa, none⟩) 1 ca) ∧ w'.cell? ⟨w.heap.size + 1, 0, none⟩ = some (.int .i64 5) ∧ w'.cell? ⟨w.heap.size + 1, 1, none⟩ = some (.int .i64 gb) ∧ w'.cell? ⟨w.heap.size + 1, 2, none⟩ = some (.int .i64 lb) ∧ w'.cell? ⟨w.heap.size + 1, 3, none⟩ = some (.slice (some ⟨bb, ob, none⟩) 1 cb) ∧ w'.cell? ⟨ba, oa, none⟩ = some (.int .i64 ka1) ∧ w'.cell? ⟨ba, oa + 1, none⟩ = some (.int .i64 ga1) ∧ w'.cell? ⟨ba, oa + 2, none⟩ = some (.int .i64 la1) ∧ w'.cell? ⟨ba, oa + 3, none⟩ = some (.slice aa1 na1 ca1) ∧ w'.cell? ⟨bb, ob, none⟩ = some (.int .i64 kb1) ∧ w'.cell? ⟨bb, ob + 1, none⟩ = some (.int .i64 gb1) ∧ w'.cell? ⟨bb, ob + 2, none⟩ = some (.int .i64 lb1) ∧ w'.cell? ⟨bb, ob + 3, none⟩ = some (.slice ab1 nb1 cb1))) (S1 := (fun w' => w'.cell? ⟨w.heap.size, 0, none⟩ = some (.int .i64 4) ∧ w'.cell? ⟨w.heap.size, 1, none⟩ = some (.int .i64 ga) ∧ w'.cell? ⟨w.heap.size, 2, none⟩ = some (.int .i64 la) ∧ w'.cell? ⟨w.heap.size, 3, none⟩ = some (.slice (some ⟨ba, oa, none⟩) 1 ca) ∧ w'.cell? ⟨w.heap.size + 1, 0, none⟩ = some (.int .i64 5) ∧ w'.cell? ⟨w.heap.size + 1, 1, none⟩ = some (.int .i64 gb) ∧ w'.cell? ⟨w.heap.size + 1, 2, none⟩ = some (.int .i64 lb) ∧ w'.cell? ⟨w.heap.size + 1, 3, none⟩ = some (.slice (some ⟨bb, ob, none⟩) 1 cb) ∧ w'.cell? ⟨ba, oa, none⟩ = some (.int .i64 ka1) ∧ w'.cell? ⟨ba, oa + 1, none⟩ = some (.int .i64 ga1) ∧ w'.cell? ⟨ba, oa + 2, none⟩ = some (.int .i64 la1) ∧ w'.cell? ⟨ba, oa + 3, none⟩ = some (.slice aa1 na1 ca1) ∧ w'.cell? ⟨bb, ob, none⟩ = some (.int .i64 kb1) ∧ w'.cell? ⟨bb, ob + 1, none⟩ = some (.int .i64 gb1) ∧ w'.cell? ⟨bb, ob + 2, none⟩ = some (.int .i64 lb1) ∧ w'.cell? ⟨bb, ob + 3, none⟩ = some (.slice ab1 nb1 cb1))) (by kernel_rfl) (HS0.out _ (below_drew _)) (HS0.out _ (below_drew _)) (fun hS0 => ?_)
  refine takeL (i := 0) (v := ?vr11) rfl (by kernel_rfl) (by kernel_rfl) (by kernel_rfl) (by decide) (fun _ _ _ h => h) (Or.inl ⟨by rfl, ?hyr11⟩) (by assumption) ?_
  case hyr11 => (intro w hSw; (try dsimp only at hSw); go_simp; (try with_reducible rfl))
  try simp only [Act.put, List.setIfInBounds_toArray, List.set_cons_zero, List.set_cons_succ]
  refine takeL (i := 1) (v := ?vr12) rfl (by kernel_rfl) (by kernel_rfl) (by kernel_rfl) (by decide) (fun _ _ _ h => h) (Or.inl ⟨by rfl, ?hyr12⟩) (by assumption) ?_
  case hyr12 => (intro w hSw; (try dsimp only at hSw); go_simp; (try with_reducible rfl))
  try simp only [Act.put, List.setIfInBounds_toArray, List.set_cons_zero, List.set_cons_succ]
  refine takeL (i := 2) (v := ?vr13) rfl (by kernel_rfl) (by kernel_rfl) (by kernel_rfl) (by decide) (fun _ _ _ h => h) (Or.inl ⟨by rfl, ?hyr13⟩) (by assumption) ?_
  case hyr13 => (intro w hSw; (try dsimp only at hSw); go_simp; (try with_reducible rfl))
  try simp only [Act.put, List.setIfInBounds_toArray, List.set_cons_zero, List.set_cons_succ]
  refine takeL (i := 3) (v := ?vr14) rfl (by kernel_rfl) (by kernel_rfl) (by kernel_rfl) (by decide) (fun _ _ _ h => h) (Or.inl ⟨by rfl, ?hyr14⟩) (by assumption) ?_
  case hyr14 => (intro w hSw; (try dsimp only at hSw); go_simp; (try with_reducible rfl))
  try simp only [Act.put, List.setIfInBounds_toArray, List.set_cons_zero, List.set_cons_succ]
  refine takeL (i := 5) (v := ?vr15) rfl (by kernel_rfl) (by kernel_rfl) (by kernel_rfl) (by decide) (fun _ _ _ h => h) (Or.inl ⟨by rfl, ?hyr15⟩) (by assumption) ?_
  case hyr15 => (intro w hSw; (try dsimp only at hSw); go_simp; (try with_reducible rfl))
  try simp only [Act.put, List.setIfInBounds_toArray, List.set_cons_zero, List.set_cons_succ]
  refine takeL (i := 6) (v := ?vr16) rfl (by kernel_rfl) (by kernel_rfl) (by kernel_rfl) (by decide) (fun _ _ _ h => h) (Or.inl ⟨by rfl, ?hyr16⟩) (by assumption) ?_
  case hyr16 => (intro w hSw; (try dsimp only at hSw); go_simp; (try with_reducible rfl))
  try simp only [Act.put, List.setIfInBounds_toArray, List.set_cons_zero, List.set_cons_succ]
  refine takeL (i := 7) (v := ?vr17) rfl (by kernel_rfl) (by kernel_rfl) (by kernel_rfl) (by decide) (fun _ _ _ h => h) (Or.inl ⟨by rfl, ?hyr17⟩) (by assumption) ?_
  case hyr17 => (intro w hSw; (try dsimp only at hSw); go_simp; (try with_reducible rfl))
  try simp only [Act.put, List.setIfInBounds_toArray, List.set_cons_zero, List.set_cons_succ]
  refine takeL0 (i := 8) (v := ?vr18) rfl rfl (by kernel_rfl) (by kernel_rfl) (by kernel_rfl) (by decide) (by kernel_rfl) (by kernel_rfl) (fun _ _ _ h => h) (Or.inl ⟨by rfl, ?hyr18⟩) (by assumption) ?_
  case hyr18 => (intro w hSw; (try dsimp only at hSw); go_simp; (try with_reducible rfl))
  try simp only [Act.put, List.setIfInBounds_toArray, List.set_cons_zero, List.set_cons_succ]
  refine readyL (rs := [4]) (by kernel_rfl) (by simp) ?_
  refine AllReadyL.cons rfl (fun K hK => ?_) AllReadyL.nil
  go_simp
  refine (tagi_any _ _ _ _ _ HT1.out (Hha1.out.below (below_drew Z))).mono ?_
  rintro e w1 ⟨rfl, hb1⟩
  have hB1 := below_trans (below_drew Z) hb1
  refine hK.out _ _ ?_ (fun hS1 => ?_)
  · exact ⟨HS0.out _ hB1, fun _ => HS0.out _ hB1⟩
  clear hK K hS0
  try simp only [Act.put, List.setIfInBounds_toArray, List.set_cons_zero, List.set_cons_succ]
  refine readyL (rs := [9]) (by kernel_rfl) (by simp) ?_
  refine AllReadyL.cons rfl (fun K hK => ?_) AllReadyL.nil
  go_simp
  refine (tagi_any _ _ _ _ _ HT2.out (Hhb1.out.below hB1)).mono ?_
  rintro e w2 ⟨rfl, hb2⟩
  have hB2 := below_trans hB1 hb2
  refine hK.out _ _ ?_ (fun hS2 => ?_)
  · exact ⟨HS0.out _ hB2, fun h => absurd (h.symm.trans (show _ = true by kernel_rfl)) (by decide)⟩
  clear hK K hS1
  try simp only [Act.put, List.setIfInBounds_toArray, List.set_cons_zero, List.set_cons_succ]
  refine takeL (i := 10) (v := ?vr19) rfl (by kernel_rfl) (by kernel_rfl) (by kernel_rfl) (by decide) (fun _ _ _ h => h) (Or.inl ⟨by rfl, ?hyr19⟩) (by assumption) ?_
  case hyr19 => (intro w hSw; (try dsimp only at hSw); go_simp; (try with_reducible rfl))
  try simp only [Act.put, List.setIfInBounds_toArray, List.set_cons_zero, List.set_cons_succ]
  refine doneL (by kernel_rfl) ?_ _
  rw [HQ.out]
  have HB2 := hid hB2
  have hSS := HS0.out _ hB2
  clear hB1 hB2 hb1 hb2 x0 x1 x2 x3 y0 y1 y2 y3 d0 d1 d2 d3 e0 e1 e2 e3
  obtain ⟨x0, x1, x2, x3, y0, y1, y2, y3, d0, d1, d2, d3, e0, e1, e2, e3⟩ := hSS
  have HS2 := hid (show ∀ w', Below w2.heap.size w2 w' → (fun w' => w'.cell? ⟨w.heap.size, 0, none⟩ = some (.int .i64 4) ∧ w'.cell? ⟨w.heap.size, 1, none⟩ = some (.int .i64 ga) ∧ w'.cell? ⟨w.heap.size, 2, none⟩ = some (.int .i64 la) ∧ w'.cell? ⟨w.heap.size, 3, none⟩ = some (.slice (some ⟨ba, oa, none⟩) 1 ca) ∧ w'.cell? ⟨w.heap.size + 1, 0, none⟩ = some (.int .i64 5) ∧ w'.cell? ⟨w.heap.size + 1, 1, none⟩ = some (.int .i64 gb) ∧ w'.cell? ⟨w.heap.size + 1, 2, none⟩ = some (.int .i64 lb) ∧ w'.cell? ⟨w.heap.size + 1, 3, none⟩ = some (.slice (some ⟨bb, ob, none⟩) 1 cb) ∧ w'.cell? ⟨ba, oa, none⟩ = some (.int .i64 ka1) ∧ w'.cell? ⟨ba, oa + 1, none⟩ = some (.int .i64 ga1) ∧ w'.cell? ⟨ba, oa + 2, none⟩ = some (.int .i64 la1) ∧ w'.cell? ⟨ba, oa + 3, none⟩ = some (.slice aa1 na1 ca1) ∧ w'.cell? ⟨bb, ob, none⟩ = some (.int .i64 kb1) ∧ w'.cell? ⟨bb, ob + 1, none⟩ = some (.int .i64 gb1) ∧ w'.cell? ⟨bb, ob + 2, none⟩ = some (.int .i64 lb1) ∧ w'.cell? ⟨bb, ob + 3, none⟩ = some (.slice ab1 nb1 cb1)) w' from fun w' h => HS0.out _ (below_trans HB2.out h))
  go_wp2_with fail
  refine regionL (s := 11) (S0 := (fun w' => w'.cell? ⟨w.heap.size, 0, none⟩ = some (.int .i64 4) ∧ w'.cell? ⟨w.heap.size, 1, none⟩ = some (.int .i64 ga) ∧ w'.cell? ⟨w.heap.size, 2, none⟩ = some (.int .i64 la) ∧ w'.cell? ⟨w.heap.size, 3, none⟩ = some (.slice (some ⟨ba, oa, none⟩) 1 ca) ∧ w'.cell? ⟨w.heap.size + 1, 0, none⟩ = some (.int .i64 5) ∧ w'.cell? ⟨w.heap.size + 1, 1, none⟩ = some (.int .i64 gb) ∧ w'.cell? ⟨w.heap.size + 1, 2, none⟩ = some (.int .i64 lb) ∧ w'.cell? ⟨w.heap.size + 1, 3, none⟩ = some (.slice (some ⟨bb, ob, none⟩) 1 cb) ∧ w'.cell? ⟨ba, oa, none⟩ = some (.int .i64 ka1) ∧ w'.cell? ⟨ba, oa + 1, none⟩ = some (.int .i64 ga1) ∧ w'.cell? ⟨ba, oa + 2, none⟩ = some (.int .i64 la1) ∧ w'.cell? ⟨ba, oa + 3, none⟩ = some (.slice aa1 na1 ca1) ∧ w'.cell? ⟨bb, ob, none⟩ = some (.int .i64 kb1) ∧ w'.cell? ⟨bb, ob + 1, none⟩ = some (.int .i64 gb1) ∧ w'.cell? ⟨bb, ob + 2, none⟩ = some (.int .i64 lb1) ∧ w'.cell? ⟨bb, ob + 3, none⟩ = some (.slice ab1 nb1 cb1))) (S1 := (fun _ => True)) (by kernel_rfl) (HS2.out _ (below_drew _)) (trivial) (fun hS0 => ?_)
  refine takeL0 (i := 0) (v := ?vr21) rfl rfl (by kernel_rfl) (by kernel_rfl) (by kernel_rfl) (by decide) (by kernel_rfl) (by kernel_rfl) (fun _ _ _ h => h) (Or.inl ⟨by rfl, ?hyr21⟩) (by assumption) ?_
  case hyr21 => (intro w hSw; (try dsimp only at hSw); go_simp; (try with_reducible rfl))
  try simp only [Act.put, List.setIfInBounds_toArray, List.set_cons_zero, List.set_cons_succ]
  refine takeL0 (i := 1) (v := ?vr22) rfl rfl (by kernel_rfl) (by kernel_rfl) (by kernel_rfl) (by decide) (by kernel_rfl) (by kernel_rfl) (fun _ _ _ h => h) (Or.inl ⟨by rfl, ?hyr22⟩) (by assumption) ?_
  case hyr22 => (intro w hSw; (try dsimp only at hSw); go_simp; (try with_reducible rfl))
  try simp only [Act.put, List.setIfInBounds_toArray, List.set_cons_zero, List.set_cons_succ]
  refine takeL0 (i := 2) (v := ?vr23) rfl rfl (by kernel_rfl) (by kernel_rfl) (by kernel_rfl) (by decide) (by kernel_rfl) (by kernel_rfl) (fun _ _ _ h => h) (Or.inl ⟨by rfl, ?hyr23⟩) (by assumption) ?_
  case hyr23 => (intro w hSw; (try dsimp only at hSw); go_simp; (try with_reducible rfl))
  try simp only [Act.put, List.setIfInBounds_toArray, List.set_cons_zero, List.set_cons_succ]
  refine takeL0 (i := 3) (v := ?vr24) rfl rfl (by kernel_rfl) (by kernel_rfl) (by kernel_rfl) (by decide) (by kernel_rfl) (by kernel_rfl) (fun _ _ _ h => h) (Or.inl ⟨by rfl, ?hyr24⟩) (by assumption) ?_
  case hyr24 => (intro w hSw; (try dsimp only at hSw); go_simp; (try with_reducible rfl))
  try simp only [Act.put, List.setIfInBounds_toArray, List.set_cons_zero, List.set_cons_succ]
  refine takeL0 (i := 4) (v := ?vr25) rfl rfl (by kernel_rfl) (by kernel_rfl) (by kernel_rfl) (by decide) (by kernel_rfl) (by kernel_rfl) (fun _ _ _ h => h) (Or.inl ⟨by rfl, ?hyr25⟩) (by assumption) ?_
  case hyr25 => (intro w hSw; (try dsimp only at hSw); go_simp; (try with_reducible rfl))
  try simp only [Act.put, List.setIfInBounds_toArray, List.set_cons_zero, List.set_cons_succ]
  refine takeL0 (i := 5) (v := ?vr26) rfl rfl (by kernel_rfl) (by kernel_rfl) (by kernel_rfl) (by decide) (by kernel_rfl) (by kernel_rfl) (fun _ _ _ h => h) (Or.inl ⟨by rfl, ?hyr26⟩) (by assumption) ?_
  case hyr26 => (intro w hSw; (try dsimp only at hSw); go_simp; (try with_reducible rfl))
  try simp only [Act.put, List.setIfInBounds_toArray, List.set_cons_zero, List.set_cons_succ]
  refine takeL0 (i := 6) (v := ?vr27) rfl rfl (by kernel_rfl) (by kernel_rfl) (by kernel_rfl) (by decide) (by kernel_rfl) (by kernel_rfl) (fun _ _ _ h => h) (Or.inl ⟨by rfl, ?hyr27⟩) (by assumption) ?_
  case hyr27 => (intro w hSw; (try dsimp only at hSw); go_simp; (try with_reducible rfl))
  try simp only [Act.put, List.setIfInBounds_toArray, List.set_cons_zero, List.set_cons_succ]
  refine takeL0 (i := 7) (v := ?vr28) rfl rfl (by kernel_rfl) (by kernel_rfl) (by kernel_rfl) (by decide) (by kernel_rfl) (by kernel_rfl) (fun _ _ _ h => h) (Or.inl ⟨by rfl, ?hyr28⟩) (by assumption) ?_
  case hyr28 => (intro w hSw; (try dsimp only at hSw); go_simp; (try with_reducible rfl))
  try simp only [Act.put, List.setIfInBounds_toArray, List.set_cons_zero, List.set_cons_succ]
  refine readyL (rs := [8]) (by kernel_rfl) (by simp) ?_
  refine AllReadyL.cons rfl (fun K hK => ?_) AllReadyL.nil
  go_simp
  refine (ci_from HIH.out (W0 := w2) (below_drew w2) HP.out.1 HP.out.2.1 HP.out.2.2.1 HP.out.2.2.2.1 HP.out.2.2.2.2 (Hha1.out.below HB2.out) (Hhb1.out.below HB2.out)).mono ?_
  rintro e w3 ⟨⟨pk, pg, pl, pa, pn, pc, rfl, hb3, hO⟩, hU⟩
  have hB3 := below_trans HB2.out (below_trans hU hb3)
  generalize hr : (cmpo n a1 b1).isSome = r at *
  refine hK.out _ _ ?_ (fun hS1 => ?_)
  · exact ⟨trivial, fun _ => HS0.out _ hB3⟩
  clear hK K hS0
  try simp only [Act.put, List.setIfInBounds_toArray, List.set_cons_zero, List.set_cons_succ]
  refine readyL (rs := [9, 10]) (by kernel_rfl) (by simp) ?_
  refine AllReadyL.cons rfl (fun K hK => ?_) ?_
  · go_simp
    refine hK.out _ _ ?_ (fun hS2 => ?_)
    · exact ⟨trivial, fun _ => HS0.out _ hB3⟩
    clear hK K hS1
    try simp only [Act.put, List.setIfInBounds_toArray, List.set_cons_zero, List.set_cons_succ]
    refine readyL (rs := [10]) (by kernel_rfl) (by simp) ?_
    refine AllReadyL.cons rfl (fun K hK => ?_) AllReadyL.nil
    go_simp
    refine hK.out _ _ ?_ (fun hS3 => ?_)
    · exact ⟨trivial, fun _ => HS0.out _ hB3⟩
    clear hK K hS2
    try simp only [Act.put, List.setIfInBounds_toArray, List.set_cons_zero, List.set_cons_succ]
    refine readyL (rs := [11]) (by kernel_rfl) (by simp) ?_
    refine AllReadyL.cons rfl (fun K hK => ?_) AllReadyL.nil
    have bM := (hB3.block (w.heap.size + 1 + 1) (by have := HZS.out; omega)).trans HBZ.out
    have z0 := (cell_of_block (o := 0) bM).trans (show _ = some (.int .i64 0) from rfl)
    have z1 := (cell_of_block (o := 1) bM).trans (show _ = some (.int .i64 0) from rfl)
    have z2 := (cell_of_block (o := 2) bM).trans (show _ = some (.int .i64 0) from rfl)
    have z3 := (cell_of_block (o := 3) bM).trans (show _ = some (.slice none 0 0) from rfl)
    have yz := fun o => frozen_of_block (o := o) bM
    go_simp
    refine hK.out _ _ ?_ (fun hS4 => ?_)
    · exact ⟨trivial, fun h => absurd (h.symm.trans (show _ = true by kernel_rfl)) (by decide)⟩
    clear hK K hS3
    try simp only [Act.put, List.setIfInBounds_toArray, List.set_cons_zero, List.set_cons_succ]
    refine readyL (rs := [12]) (by kernel_rfl) (by simp) ?_
    refine AllReadyL.cons rfl (fun K hK => ?_) AllReadyL.nil
    go_simp
    refine hK.out _ _ ?_ (fun hS5 => ?_)
    · exact ⟨trivial, fun h => absurd (h.symm.trans (show _ = true by kernel_rfl)) (by decide)⟩
    clear hK K hS4
    try simp only [Act.put, List.setIfInBounds_toArray, List.set_cons_zero, List.set_cons_succ]
    refine doneL (by kernel_rfl) ?_ _
    have hLF : Lft (fa ++ fb) Z.heap.size (cmpo n a1 b1) (.agg #[.int .i64 pk, .int .i64 pg, .int .i64 pl, .slice pa pn pc]) w3 := hO.mono (fun x hx => .inl (by rw [HF.out.1, HF.out.2]; rcases List.mem_append.1 hx with h | h <;> simp [h])) (by have := HB2.out.size; have := hU.size; omega)
    have FIN := closeL (k := pk) (g := pg) (l := pl) (a := pa) (n := pn) (cap := pc) (w := w) (wF := w3) (M := w.heap.size + 1 + 1) (lo := Z.heap.size) (A := fa ++ fb) (o := cmpo n a1 b1) (b := r) (hr) (hLF) HA.out (by omega) (by have := HZS.out; have := (hB3).size; omega) (below_trans HB0.out hB3)
    simp only [put4, Nat.zero_add] at FIN
    go_wp2_with fail
    exact bodyPost_ret (v := .tuple #[.agg #[.int .i64 pk, .int .i64 pg, .int .i64 pl, .slice pa pn pc], .bool (r)]) (by simp [results, Try.results95, go_sem, z0, z1, z2, z3]) rfl FIN
  refine AllReadyL.cons rfl (fun K hK => ?_) AllReadyL.nil
  go_simp
  refine hK.out _ _ ?_ (fun hS2 => ?_)
  · exact ⟨trivial, fun _ => HS0.out _ hB3⟩
  clear hK K hS1
  try simp only [Act.put, List.setIfInBounds_toArray, List.set_cons_zero, List.set_cons_succ]
  refine readyL (rs := [9]) (by kernel_rfl) (by simp) ?_
  refine AllReadyL.cons rfl (fun K hK => ?_) AllReadyL.nil
  go_simp
  refine hK.out _ _ ?_ (fun hS3 => ?_)
  · exact ⟨trivial, fun _ => HS0.out _ hB3⟩
  clear hK K hS2
  try simp only [Act.put, List.setIfInBounds_toArray, List.set_cons_zero, List.set_cons_succ]
  refine readyL (rs := [11]) (by kernel_rfl) (by simp) ?_
  refine AllReadyL.cons rfl (fun K hK => ?_) AllReadyL.nil
  have bM := (hB3.block (w.heap.size + 1 + 1) (by have := HZS.out; omega)).trans HBZ.out
  have z0 := (cell_of_block (o := 0) bM).trans (show _ = some (.int .i64 0) from rfl)
  have z1 := (cell_of_block (o := 1) bM).trans (show _ = some (.int .i64 0) from rfl)
  have z2 := (cell_of_block (o := 2) bM).trans (show _ = some (.int .i64 0) from rfl)
  have z3 := (cell_of_block (o := 3) bM).trans (show _ = some (.slice none 0 0) from rfl)
  have yz := fun o => frozen_of_block (o := o) bM
  go_simp
  refine hK.out _ _ ?_ (fun hS4 => ?_)
  · exact ⟨trivial, fun h => absurd (h.symm.trans (show _ = true by kernel_rfl)) (by decide)⟩
  clear hK K hS3
  try simp only [Act.put, List.setIfInBounds_toArray, List.set_cons_zero, List.set_cons_succ]
  refine readyL (rs := [12]) (by kernel_rfl) (by simp) ?_
  refine AllReadyL.cons rfl (fun K hK => ?_) AllReadyL.nil
  go_simp
  refine hK.out _ _ ?_ (fun hS5 => ?_)
  · exact ⟨trivial, fun h => absurd (h.symm.trans (show _ = true by kernel_rfl)) (by decide)⟩
  clear hK K hS4
  try simp only [Act.put, List.setIfInBounds_toArray, List.set_cons_zero, List.set_cons_succ]
  refine doneL (by kernel_rfl) ?_ _
  have hLF : Lft (fa ++ fb) Z.heap.size (cmpo n a1 b1) (.agg #[.int .i64 pk, .int .i64 pg, .int .i64 pl, .slice pa pn pc]) w3 := hO.mono (fun x hx => .inl (by rw [HF.out.1, HF.out.2]; rcases List.mem_append.1 hx with h | h <;> simp [h])) (by have := HB2.out.size; have := hU.size; omega)
  have FIN := closeL (k := pk) (g := pg) (l := pl) (a := pa) (n := pn) (cap := pc) (w := w) (wF := w3) (M := w.heap.size + 1 + 1) (lo := Z.heap.size) (A := fa ++ fb) (o := cmpo n a1 b1) (b := r) (hr) (hLF) HA.out (by omega) (by have := HZS.out; have := (hB3).size; omega) (below_trans HB0.out hB3)
  simp only [put4, Nat.zero_add] at FIN
  go_wp2_with fail
  exact bodyPost_ret (v := .tuple #[.agg #[.int .i64 pk, .int .i64 pg, .int .i64 pl, .slice pa pn pc], .bool (r)]) (by simp [results, Try.results95, go_sem, z0, z1, z2, z3]) rfl FIN
set_option maxRecDepth 100000 in
set_option maxHeartbeats 4000000 in
theorem across_diff (n : Nat) (ih : CpiC n) (ga la gb lb : Int) (a1 b1 : Co) (d d' : Nat) (va vb : Value) (fa fb : List Nat) (w : World) (hd : d + d' ≤ n) (hd1 : d ≤ 9) (hd2 : d' ≤ 9) (hs1 : shpK d a1 = true) (hs2 : shpK d' b1 = true) (hq : tagC a1 ≠ tagC b1) (hata : (Co.mk 4 ga la [a1]).At w va fa) (hatb : (Co.mk 5 gb lb [b1]).At w vb fb) :
    Calls Try.prog 95 #[va, vb] w (MadeL w (fa ++ fb) (some (.mk 6 (tagC a1) lb []))) := by
  have HA := hid (show ∀ x ∈ fa ++ fb, x < w.heap.size from fun x hx => (List.mem_append.1 hx).elim (hata.lt x) (hatb.lt x))
  have hata0 := hata
  have hatb0 := hatb
  obtain ⟨sa, rfl, hsa⟩ := Co.at_mk.1 hata
  obtain ⟨sb, rfl, hsb⟩ := Co.at_mk.1 hatb
  obtain ⟨ba, oa, ca, ka1, ga1, la1, na1, aa1, ca1, fa1, rfl, hba, d0, d1, d2, d3, ha1, hfa, _⟩ := hsa.one
  obtain ⟨bb, ob, cb, kb1, gb1, lb1, nb1, ab1, cb1, fb1, rfl, hbb, e0, e1, e2, e3, hb1, hfb, _⟩ := hsb.one
  have hb0 : Below w.heap.size w (((w.alloc (Obj.cells #[.int .i64 4, .int .i64 ga, .int .i64 la, .slice (some ⟨ba, oa, none⟩) 1 ca] 30)).alloc (Obj.cells #[.int .i64 5, .int .i64 gb, .int .i64 lb, .slice (some ⟨bb, ob, none⟩) 1 cb] 30)).alloc (Obj.cells #[.int .i64 0, .int .i64 0, .int .i64 0, .slice none 0 0] 30)) := (((Below.refl _ _).alloc (Nat.le_refl _) _).alloc (by simp) _).alloc (by simp; omega) _
  have hs0 : ((((w.alloc (Obj.cells #[.int .i64 4, .int .i64 ga, .int .i64 la, .slice (some ⟨ba, oa, none⟩) 1 ca] 30)).alloc (Obj.cells #[.int .i64 5, .int .i64 gb, .int .i64 lb, .slice (some ⟨bb, ob, none⟩) 1 cb] 30)).alloc (Obj.cells #[.int .i64 0, .int .i64 0, .int .i64 0, .slice none 0 0] 30))).heap.size = w.heap.size + 1 + 1 + 1 := by simp
  obtain ⟨bA, bB, bZ⟩ := three3 (Below.refl ((((w.alloc (Obj.cells #[.int .i64 4, .int .i64 ga, .int .i64 la, .slice (some ⟨ba, oa, none⟩) 1 ca] 30)).alloc (Obj.cells #[.int .i64 5, .int .i64 gb, .int .i64 lb, .slice (some ⟨bb, ob, none⟩) 1 cb] 30)).alloc (Obj.cells #[.int .i64 0, .int .i64 0, .int .i64 0, .slice none 0 0] 30))).heap.size (((w.alloc (Obj.cells #[.int .i64 4, .int .i64 ga, .int .i64 la, .slice (some ⟨ba, oa, none⟩) 1 ca] 30)).alloc (Obj.cells #[.int .i64 5, .int .i64 gb, .int .i64 lb, .slice (some ⟨bb, ob, none⟩) 1 cb] 30)).alloc (Obj.cells #[.int .i64 0, .int .i64 0, .int .i64 0, .slice none 0 0] 30)))
  have x0 : ((((w.alloc (Obj.cells #[.int .i64 4, .int .i64 ga, .int .i64 la, .slice (some ⟨ba, oa, none⟩) 1 ca] 30)).alloc (Obj.cells #[.int .i64 5, .int .i64 gb, .int .i64 lb, .slice (some ⟨bb, ob, none⟩) 1 cb] 30)).alloc (Obj.cells #[.int .i64 0, .int .i64 0, .int .i64 0, .slice none 0 0] 30))).cell? ⟨w.heap.size, 0, none⟩ = some (.int .i64 4) := by rw [cell_of_block bA]; rfl
  have x1 : ((((w.alloc (Obj.cells #[.int .i64 4, .int .i64 ga, .int .i64 la, .slice (some ⟨ba, oa, none⟩) 1 ca] 30)).alloc (Obj.cells #[.int .i64 5, .int .i64 gb, .int .i64 lb, .slice (some ⟨bb, ob, none⟩) 1 cb] 30)).alloc (Obj.cells #[.int .i64 0, .int .i64 0, .int .i64 0, .slice none 0 0] 30))).cell? ⟨w.heap.size, 1, none⟩ = some (.int .i64 ga) := by rw [cell_of_block bA]; rfl
  have x2 : ((((w.alloc (Obj.cells #[.int .i64 4, .int .i64 ga, .int .i64 la, .slice (some ⟨ba, oa, none⟩) 1 ca] 30)).alloc (Obj.cells #[.int .i64 5, .int .i64 gb, .int .i64 lb, .slice (some ⟨bb, ob, none⟩) 1 cb] 30)).alloc (Obj.cells #[.int .i64 0, .int .i64 0, .int .i64 0, .slice none 0 0] 30))).cell? ⟨w.heap.size, 2, none⟩ = some (.int .i64 la) := by rw [cell_of_block bA]; rfl
  have x3 : ((((w.alloc (Obj.cells #[.int .i64 4, .int .i64 ga, .int .i64 la, .slice (some ⟨ba, oa, none⟩) 1 ca] 30)).alloc (Obj.cells #[.int .i64 5, .int .i64 gb, .int .i64 lb, .slice (some ⟨bb, ob, none⟩) 1 cb] 30)).alloc (Obj.cells #[.int .i64 0, .int .i64 0, .int .i64 0, .slice none 0 0] 30))).cell? ⟨w.heap.size, 3, none⟩ = some (.slice (some ⟨ba, oa, none⟩) 1 ca) := by rw [cell_of_block bA]; rfl
  have y0 : ((((w.alloc (Obj.cells #[.int .i64 4, .int .i64 ga, .int .i64 la, .slice (some ⟨ba, oa, none⟩) 1 ca] 30)).alloc (Obj.cells #[.int .i64 5, .int .i64 gb, .int .i64 lb, .slice (some ⟨bb, ob, none⟩) 1 cb] 30)).alloc (Obj.cells #[.int .i64 0, .int .i64 0, .int .i64 0, .slice none 0 0] 30))).cell? ⟨w.heap.size + 1, 0, none⟩ = some (.int .i64 5) := by rw [cell_of_block bB]; rfl
  have y1 : ((((w.alloc (Obj.cells #[.int .i64 4, .int .i64 ga, .int .i64 la, .slice (some ⟨ba, oa, none⟩) 1 ca] 30)).alloc (Obj.cells #[.int .i64 5, .int .i64 gb, .int .i64 lb, .slice (some ⟨bb, ob, none⟩) 1 cb] 30)).alloc (Obj.cells #[.int .i64 0, .int .i64 0, .int .i64 0, .slice none 0 0] 30))).cell? ⟨w.heap.size + 1, 1, none⟩ = some (.int .i64 gb) := by rw [cell_of_block bB]; rfl
  have y2 : ((((w.alloc (Obj.cells #[.int .i64 4, .int .i64 ga, .int .i64 la, .slice (some ⟨ba, oa, none⟩) 1 ca] 30)).alloc (Obj.cells #[.int .i64 5, .int .i64 gb, .int .i64 lb, .slice (some ⟨bb, ob, none⟩) 1 cb] 30)).alloc (Obj.cells #[.int .i64 0, .int .i64 0, .int .i64 0, .slice none 0 0] 30))).cell? ⟨w.heap.size + 1, 2, none⟩ = some (.int .i64 lb) := by rw [cell_of_block bB]; rfl
  have y3 : ((((w.alloc (Obj.cells #[.int .i64 4, .int .i64 ga, .int .i64 la, .slice (some ⟨ba, oa, none⟩) 1 ca] 30)).alloc (Obj.cells #[.int .i64 5, .int .i64 gb, .int .i64 lb, .slice (some ⟨bb, ob, none⟩) 1 cb] 30)).alloc (Obj.cells #[.int .i64 0, .int .i64 0, .int .i64 0, .slice none 0 0] 30))).cell? ⟨w.heap.size + 1, 3, none⟩ = some (.slice (some ⟨bb, ob, none⟩) 1 cb) := by rw [cell_of_block bB]; rfl
  replace d0 := cell_keep d0 hb0
  replace d1 := cell_keep d1 hb0
  replace d2 := cell_keep d2 hb0
  replace d3 := cell_keep d3 hb0
  replace e0 := cell_keep e0 hb0
  replace e1 := cell_keep e1 hb0
  replace e2 := cell_keep e2 hb0
  replace e3 := cell_keep e3 hb0
  have HB0 := hid hb0
  have HTA0 := hid hata0
  have HTB0 := hid hatb0
  have HBZ := hid bZ
  have HTA := hid (hata0.below hb0)
  have HTB := hid (hatb0.below hb0)
  have Hha1 := hid (ha1.below hb0)
  have Hhb1 := hid (hb1.below hb0)
  obtain ⟨Z, hZd⟩ : ∃ Z, Z = (((w.alloc (Obj.cells #[.int .i64 4, .int .i64 ga, .int .i64 la, .slice (some ⟨ba, oa, none⟩) 1 ca] 30)).alloc (Obj.cells #[.int .i64 5, .int .i64 gb, .int .i64 lb, .slice (some ⟨bb, ob, none⟩) 1 cb] 30)).alloc (Obj.cells #[.int .i64 0, .int .i64 0, .int .i64 0, .slice none 0 0] 30)) := ⟨_, rfl⟩
  rw [← hZd] at hb0 hs0 HB0 HBZ HTA HTB Hha1 Hhb1 x0 x1 x2 x3 y0 y1 y2 y3 d0 d1 d2 d3 e0 e1 e2 e3
  have HZS := hid hs0
  have HS0 := hid (show ∀ w', Below Z.heap.size Z w' → (fun w' => w'.cell? ⟨w.heap.size, 0, none⟩ = some (.int .i64 4) ∧ w'.cell? ⟨w.heap.size, 1, none⟩ = some (.int .i64 ga) ∧ w'.cell? ⟨w.heap.size, 2, none⟩ = some (.int .i64 la) ∧ w'.cell? ⟨w.heap.size, 3, none⟩ = some (.slice (some ⟨ba, oa, none⟩) 1 ca) ∧ w'.cell? ⟨w.heap.size + 1, 0, none⟩ = some (.int .i64 5) ∧ w'.cell? ⟨w.heap.size + 1, 1, none⟩ = some (.int .i64 gb) ∧ w'.cell? ⟨w.heap.size + 1, 2, none⟩ = some (.int .i64 lb) ∧ w'.cell? ⟨w.heap.size + 1, 3, none⟩ = some (.slice (some ⟨bb, ob, none⟩) 1 cb) ∧ w'.cell? ⟨ba, oa, none⟩ = some (.int .i64 ka1) ∧ w'.cell? ⟨ba, oa + 1, none⟩ = some (.int .i64 ga1) ∧ w'.cell? ⟨ba, oa + 2, none⟩ = some (.int .i64 la1) ∧ w'.cell? ⟨ba, oa + 3, none⟩ = some (.slice aa1 na1 ca1) ∧ w'.cell? ⟨bb, ob, none⟩ = some (.int .i64 kb1) ∧ w'.cell? ⟨bb, ob + 1, none⟩ = some (.int .i64 gb1) ∧ w'.cell? ⟨bb, ob + 2, none⟩ = some (.int .i64 lb1) ∧ w'.cell? ⟨bb, ob + 3, none⟩ = some (.slice ab1 nb1 cb1)) w' from fun w' h => ⟨cell_keep x0 h, cell_keep x1 h, cell_keep x2 h, cell_keep x3 h, cell_keep y0 h, cell_keep y1 h, cell_keep y2 h, cell_keep y3 h, cell_keep d0 h, cell_keep d1 h, cell_keep d2 h, cell_keep d3 h, cell_keep e0 h, cell_keep e1 h, cell_keep e2 h, cell_keep e3 h⟩)
  have HZD := hid hZd
  clear hb0 hs0 bA bB bZ hata hatb hata0 hatb0 hsa hsb hZd ha1 hb1
  have HP := hid (And.intro hd (And.intro hd1 (And.intro hd2 (And.intro hs1 hs2))))
  have HIH := hid ih
  have HF := hid (And.intro hfa hfb)
  have HT1 := hid (tagWf_shp hs1)
  have HT2 := hid (tagWf_shp hs2)
  have HQ := hid (show (tagC a1 == tagC b1) = false by simpa using hq)
  have HT3 := hid (show tagWf (d + 1) (Co.mk 4 ga la [a1]) = true by simp only [tagWf, if_pos]; exact HT1.out)
  have HT4 := hid (show tagC (Co.mk 4 ga la [a1]) = tagC a1 by simp [tagC, tagL])
  clear hd hd1 hd2 hs1 hs2 ih hfa hfb hq
  go_enter Try.func95, Try.ntmps95
  go_wp2_with fail
  rw [← HZD.out]
  refine regionL (s := 9) (S0 := (fun w' => w'.cell? ⟨w.heap.size, 0, none⟩ = some (.int .i64 4) ∧ w'.cell? ⟨w.heap.size, 1, none⟩ = some (.int .i64 ga) ∧ w'.cell? ⟨w.heap.size, 2, none⟩ = some (.int .i64 la) ∧ w'.cell? ⟨w.heap.size, 3, none⟩ = some (.slice (some ⟨ba, oa, none⟩) 1 ca) ∧ w'.cell? ⟨w.heap.size + 1, 0, none⟩ = some (.int .i64 5) ∧ w'.cell? ⟨w.heap.size + 1, 1, none⟩ = some (.int .i64 gb) ∧ w'.cell? ⟨w.heap.size + 1, 2, none⟩ = some (.int .i64 lb) ∧ w'.cell? ⟨w.heap.size + 1, 3, none⟩ = some (.slice (some ⟨bb, ob, none⟩) 1 cb) ∧ w'.cell? ⟨ba, oa, none⟩ = some (.int .i64 ka1) ∧ w'.cell? ⟨ba, oa + 1, none⟩ = some (.int .i64 ga1) ∧ w'.cell? ⟨ba, oa + 2, none⟩ = some (.int .i64 la1) ∧ w'.cell? ⟨ba, oa + 3, none⟩ = some (.slice aa1 na1 ca1) ∧ w'.cell? ⟨bb, ob, none⟩ = some (.int .i64 kb1) ∧ w'.cell? ⟨bb, ob + 1, none⟩ = some (.int .i64 gb1) ∧ w'.cell? ⟨bb, ob + 2, none⟩ = some (.int .i64 lb1) ∧ w'.cell? ⟨bb, ob + 3, none⟩ = some (.slice ab1 nb1 cb1))) (S1 := (fun w' => w'.cell? ⟨w.heap.size, 0, none⟩ = some (.int .i64 4) ∧ w'.cell? ⟨w.heap.size, 1, none⟩ = some (.int .i64 ga) ∧ w'.cell? ⟨w.heap.size, 2, none⟩ = some (.int .i64 la) ∧ w'.cell? ⟨w.heap.size, 3, none⟩ = some (.slice (some ⟨ba, oa, none⟩) 1 ca) ∧ w'.cell? ⟨w.heap.size + 1, 0, none⟩ = some (.int .i64 5) ∧ w'.cell? ⟨w.heap.size + 1, 1, none⟩ = some (.int .i64 gb) ∧ w'.cell? ⟨w.heap.size + 1, 2, none⟩ = some (.int .i64 lb) ∧ w'.cell? ⟨w.heap.size + 1, 3, none⟩ = some (.slice (some ⟨bb, ob, none⟩) 1 cb) ∧ w'.cell? ⟨ba, oa, none⟩ = some (.int .i64 ka1) ∧ w'.cell? ⟨ba, oa + 1, none⟩ = some (.int .i64 ga1) ∧ w'.cell? ⟨ba, oa + 2, none⟩ = some (.int .i64 la1) ∧ w'.cell? ⟨ba, oa + 3, none⟩ = some (.slice aa1 na1 ca1) ∧ w'.cell? ⟨bb, ob, none⟩ = some (.int .i64 kb1) ∧ w'.cell? ⟨bb, ob + 1, none⟩ = some (.int .i64 gb1) ∧ w'.cell? ⟨bb, ob + 2, none⟩ = some (.int .i64 lb1) ∧ w'.cell? ⟨bb, ob + 3, none⟩ = some (.slice ab1 nb1 cb1))) (by kernel_rfl) (HS0.out _ (below_drew _)) (HS0.out _ (below_drew _)) (fun hS0 => ?_)
  refine takeL (i := 0) (v := ?vr11) rfl (by kernel_rfl) (by kernel_rfl) (by kernel_rfl) (by decide) (fun _ _ _ h => h) (Or.inl ⟨by rfl, ?hyr11⟩) (by assumption) ?_
  case hyr11 => (intro w hSw; (try dsimp only at hSw); go_simp; (try with_reducible rfl))
  try simp only [Act.put, List.setIfInBounds_toArray, List.set_cons_zero, List.set_cons_succ]
  refine takeL (i := 1) (v := ?vr12) rfl (by kernel_rfl) (by kernel_rfl) (by kernel_rfl) (by decide) (fun _ _ _ h => h) (Or.inl ⟨by rfl, ?hyr12⟩) (by assumption) ?_
  case hyr12 => (intro w hSw; (try dsimp only at hSw); go_simp; (try with_reducible rfl))
  try simp only [Act.put, List.setIfInBounds_toArray, List.set_cons_zero, List.set_cons_succ]
  refine takeL (i := 2) (v := ?vr13) rfl (by kernel_rfl) (by kernel_rfl) (by kernel_rfl) (by decide) (fun _ _ _ h => h) (Or.inl ⟨by rfl, ?hyr13⟩) (by assumption) ?_
  case hyr13 => (intro w hSw; (try dsimp only at hSw); go_simp; (try with_reducible rfl))
  try simp only [Act.put, List.setIfInBounds_toArray, List.set_cons_zero, List.set_cons_succ]
  refine takeL (i := 3) (v := ?vr14) rfl (by kernel_rfl) (by kernel_rfl) (by kernel_rfl) (by decide) (fun _ _ _ h => h) (Or.inl ⟨by rfl, ?hyr14⟩) (by assumption) ?_
  case hyr14 => (intro w hSw; (try dsimp only at hSw); go_simp; (try with_reducible rfl))
  try simp only [Act.put, List.setIfInBounds_toArray, List.set_cons_zero, List.set_cons_succ]
  refine takeL (i := 5) (v := ?vr15) rfl (by kernel_rfl) (by kernel_rfl) (by kernel_rfl) (by decide) (fun _ _ _ h => h) (Or.inl ⟨by rfl, ?hyr15⟩) (by assumption) ?_
  case hyr15 => (intro w hSw; (try dsimp only at hSw); go_simp; (try with_reducible rfl))
  try simp only [Act.put, List.setIfInBounds_toArray, List.set_cons_zero, List.set_cons_succ]
  refine takeL (i := 6) (v := ?vr16) rfl (by kernel_rfl) (by kernel_rfl) (by kernel_rfl) (by decide) (fun _ _ _ h => h) (Or.inl ⟨by rfl, ?hyr16⟩) (by assumption) ?_
  case hyr16 => (intro w hSw; (try dsimp only at hSw); go_simp; (try with_reducible rfl))
  try simp only [Act.put, List.setIfInBounds_toArray, List.set_cons_zero, List.set_cons_succ]
  refine takeL (i := 7) (v := ?vr17) rfl (by kernel_rfl) (by kernel_rfl) (by kernel_rfl) (by decide) (fun _ _ _ h => h) (Or.inl ⟨by rfl, ?hyr17⟩) (by assumption) ?_
  case hyr17 => (intro w hSw; (try dsimp only at hSw); go_simp; (try with_reducible rfl))
  try simp only [Act.put, List.setIfInBounds_toArray, List.set_cons_zero, List.set_cons_succ]
  refine takeL0 (i := 8) (v := ?vr18) rfl rfl (by kernel_rfl) (by kernel_rfl) (by kernel_rfl) (by decide) (by kernel_rfl) (by kernel_rfl) (fun _ _ _ h => h) (Or.inl ⟨by rfl, ?hyr18⟩) (by assumption) ?_
  case hyr18 => (intro w hSw; (try dsimp only at hSw); go_simp; (try with_reducible rfl))
  try simp only [Act.put, List.setIfInBounds_toArray, List.set_cons_zero, List.set_cons_succ]
  refine readyL (rs := [4]) (by kernel_rfl) (by simp) ?_
  refine AllReadyL.cons rfl (fun K hK => ?_) AllReadyL.nil
  go_simp
  refine (tagi_any _ _ _ _ _ HT1.out (Hha1.out.below (below_drew Z))).mono ?_
  rintro e w1 ⟨rfl, hb1⟩
  have hB1 := below_trans (below_drew Z) hb1
  refine hK.out _ _ ?_ (fun hS1 => ?_)
  · exact ⟨HS0.out _ hB1, fun _ => HS0.out _ hB1⟩
  clear hK K hS0
  try simp only [Act.put, List.setIfInBounds_toArray, List.set_cons_zero, List.set_cons_succ]
  refine readyL (rs := [9]) (by kernel_rfl) (by simp) ?_
  refine AllReadyL.cons rfl (fun K hK => ?_) AllReadyL.nil
  go_simp
  refine (tagi_any _ _ _ _ _ HT2.out (Hhb1.out.below hB1)).mono ?_
  rintro e w2 ⟨rfl, hb2⟩
  have hB2 := below_trans hB1 hb2
  refine hK.out _ _ ?_ (fun hS2 => ?_)
  · exact ⟨HS0.out _ hB2, fun h => absurd (h.symm.trans (show _ = true by kernel_rfl)) (by decide)⟩
  clear hK K hS1
  try simp only [Act.put, List.setIfInBounds_toArray, List.set_cons_zero, List.set_cons_succ]
  refine takeL (i := 10) (v := ?vr19) rfl (by kernel_rfl) (by kernel_rfl) (by kernel_rfl) (by decide) (fun _ _ _ h => h) (Or.inl ⟨by rfl, ?hyr19⟩) (by assumption) ?_
  case hyr19 => (intro w hSw; (try dsimp only at hSw); go_simp; (try with_reducible rfl))
  try simp only [Act.put, List.setIfInBounds_toArray, List.set_cons_zero, List.set_cons_succ]
  refine doneL (by kernel_rfl) ?_ _
  rw [HQ.out]
  have HB2 := hid hB2
  have hSS := HS0.out _ hB2
  clear hB1 hB2 hb1 hb2 x0 x1 x2 x3 y0 y1 y2 y3 d0 d1 d2 d3 e0 e1 e2 e3
  obtain ⟨x0, x1, x2, x3, y0, y1, y2, y3, d0, d1, d2, d3, e0, e1, e2, e3⟩ := hSS
  have HS2 := hid (show ∀ w', Below w2.heap.size w2 w' → (fun w' => w'.cell? ⟨w.heap.size, 0, none⟩ = some (.int .i64 4) ∧ w'.cell? ⟨w.heap.size, 1, none⟩ = some (.int .i64 ga) ∧ w'.cell? ⟨w.heap.size, 2, none⟩ = some (.int .i64 la) ∧ w'.cell? ⟨w.heap.size, 3, none⟩ = some (.slice (some ⟨ba, oa, none⟩) 1 ca) ∧ w'.cell? ⟨w.heap.size + 1, 0, none⟩ = some (.int .i64 5) ∧ w'.cell? ⟨w.heap.size + 1, 1, none⟩ = some (.int .i64 gb) ∧ w'.cell? ⟨w.heap.size + 1, 2, none⟩ = some (.int .i64 lb) ∧ w'.cell? ⟨w.heap.size + 1, 3, none⟩ = some (.slice (some ⟨bb, ob, none⟩) 1 cb) ∧ w'.cell? ⟨ba, oa, none⟩ = some (.int .i64 ka1) ∧ w'.cell? ⟨ba, oa + 1, none⟩ = some (.int .i64 ga1) ∧ w'.cell? ⟨ba, oa + 2, none⟩ = some (.int .i64 la1) ∧ w'.cell? ⟨ba, oa + 3, none⟩ = some (.slice aa1 na1 ca1) ∧ w'.cell? ⟨bb, ob, none⟩ = some (.int .i64 kb1) ∧ w'.cell? ⟨bb, ob + 1, none⟩ = some (.int .i64 gb1) ∧ w'.cell? ⟨bb, ob + 2, none⟩ = some (.int .i64 lb1) ∧ w'.cell? ⟨bb, ob + 3, none⟩ = some (.slice ab1 nb1 cb1)) w' from fun w' h => HS0.out _ (below_trans HB2.out h))
  go_wp2_with fail
  refine regionL (s := 5) (S0 := (fun w' => w'.cell? ⟨w.heap.size, 0, none⟩ = some (.int .i64 4) ∧ w'.cell? ⟨w.heap.size, 1, none⟩ = some (.int .i64 ga) ∧ w'.cell? ⟨w.heap.size, 2, none⟩ = some (.int .i64 la) ∧ w'.cell? ⟨w.heap.size, 3, none⟩ = some (.slice (some ⟨ba, oa, none⟩) 1 ca) ∧ w'.cell? ⟨w.heap.size + 1, 0, none⟩ = some (.int .i64 5) ∧ w'.cell? ⟨w.heap.size + 1, 1, none⟩ = some (.int .i64 gb) ∧ w'.cell? ⟨w.heap.size + 1, 2, none⟩ = some (.int .i64 lb) ∧ w'.cell? ⟨w.heap.size + 1, 3, none⟩ = some (.slice (some ⟨bb, ob, none⟩) 1 cb) ∧ w'.cell? ⟨ba, oa, none⟩ = some (.int .i64 ka1) ∧ w'.cell? ⟨ba, oa + 1, none⟩ = some (.int .i64 ga1) ∧ w'.cell? ⟨ba, oa + 2, none⟩ = some (.int .i64 la1) ∧ w'.cell? ⟨ba, oa + 3, none⟩ = some (.slice aa1 na1 ca1) ∧ w'.cell? ⟨bb, ob, none⟩ = some (.int .i64 kb1) ∧ w'.cell? ⟨bb, ob + 1, none⟩ = some (.int .i64 gb1) ∧ w'.cell? ⟨bb, ob + 2, none⟩ = some (.int .i64 lb1) ∧ w'.cell? ⟨bb, ob + 3, none⟩ = some (.slice ab1 nb1 cb1))) (S1 := (fun _ => True)) (by kernel_rfl) (HS2.out _ (below_drew _)) (trivial) (fun hS0 => ?_)
  refine takeL0 (i := 0) (v := ?vr21) rfl rfl (by kernel_rfl) (by kernel_rfl) (by kernel_rfl) (by decide) (by kernel_rfl) (by kernel_rfl) (fun _ _ _ h => h) (Or.inl ⟨by rfl, ?hyr21⟩) (by assumption) ?_
  case hyr21 => (intro w hSw; (try dsimp only at hSw); go_simp; (try with_reducible rfl))
  try simp only [Act.put, List.setIfInBounds_toArray, List.set_cons_zero, List.set_cons_succ]
  refine takeL0 (i := 1) (v := ?vr22) rfl rfl (by kernel_rfl) (by kernel_rfl) (by kernel_rfl) (by decide) (by kernel_rfl) (by kernel_rfl) (fun _ _ _ h => h) (Or.inl ⟨by rfl, ?hyr22⟩) (by assumption) ?_
  case hyr22 => (intro w hSw; (try dsimp only at hSw); go_simp; (try with_reducible rfl))
  try simp only [Act.put, List.setIfInBounds_toArray, List.set_cons_zero, List.set_cons_succ]
  refine takeL0 (i := 2) (v := ?vr23) rfl rfl (by kernel_rfl) (by kernel_rfl) (by kernel_rfl) (by decide) (by kernel_rfl) (by kernel_rfl) (fun _ _ _ h => h) (Or.inl ⟨by rfl, ?hyr23⟩) (by assumption) ?_
  case hyr23 => (intro w hSw; (try dsimp only at hSw); go_simp; (try with_reducible rfl))
  try simp only [Act.put, List.setIfInBounds_toArray, List.set_cons_zero, List.set_cons_succ]
  refine readyL (rs := [3]) (by kernel_rfl) (by simp) ?_
  refine AllReadyL.cons rfl (fun K hK => ?_) AllReadyL.nil
  go_simp
  refine (tagi_any _ _ _ _ _ HT3.out (HTA.out.below (below_trans HB2.out (below_drew w2)))).mono ?_
  rw [HT4.out]
  rintro e w3 ⟨rfl, hb3⟩
  have hB3 := below_trans HB2.out (below_trans (below_drew w2) hb3)
  refine hK.out _ _ ?_ (fun hS1 => ?_)
  · exact ⟨trivial, fun _ => HS0.out _ hB3⟩
  clear hK K hS0
  try simp only [Act.put, List.setIfInBounds_toArray, List.set_cons_zero, List.set_cons_succ]
  refine readyL (rs := [4]) (by kernel_rfl) (by simp) ?_
  refine AllReadyL.cons rfl (fun K hK => ?_) AllReadyL.nil
  go_simp
  refine hK.out _ _ ?_ (fun hS2 => ?_)
  · exact ⟨trivial, fun _ => HS0.out _ hB3⟩
  clear hK K hS1
  try simp only [Act.put, List.setIfInBounds_toArray, List.set_cons_zero, List.set_cons_succ]
  refine readyL (rs := [5]) (by kernel_rfl) (by simp) ?_
  refine AllReadyL.cons rfl (fun K hK => ?_) AllReadyL.nil
  have bM := (hB3.block (w.heap.size + 1 + 1) (by have := HZS.out; omega)).trans HBZ.out
  have z0 := (cell_of_block (o := 0) bM).trans (show _ = some (.int .i64 0) from rfl)
  have z1 := (cell_of_block (o := 1) bM).trans (show _ = some (.int .i64 0) from rfl)
  have z2 := (cell_of_block (o := 2) bM).trans (show _ = some (.int .i64 0) from rfl)
  have z3 := (cell_of_block (o := 3) bM).trans (show _ = some (.slice none 0 0) from rfl)
  have yz := fun o => frozen_of_block (o := o) bM
  go_simp
  refine hK.out _ _ ?_ (fun hS3 => ?_)
  · exact ⟨trivial, fun h => absurd (h.symm.trans (show _ = true by kernel_rfl)) (by decide)⟩
  clear hK K hS2
  try simp only [Act.put, List.setIfInBounds_toArray, List.set_cons_zero, List.set_cons_succ]
  refine readyL (rs := [6]) (by kernel_rfl) (by simp) ?_
  refine AllReadyL.cons rfl (fun K hK => ?_) AllReadyL.nil
  go_simp
  refine hK.out _ _ ?_ (fun hS4 => ?_)
  · exact ⟨trivial, fun h => absurd (h.symm.trans (show _ = true by kernel_rfl)) (by decide)⟩
  clear hK K hS3
  try simp only [Act.put, List.setIfInBounds_toArray, List.set_cons_zero, List.set_cons_succ]
  refine doneL (by kernel_rfl) ?_ _
  have FIN := closeL (k := 6) (g := (tagC a1)) (l := lb) (a := none) (n := 0) (cap := 0) (w := w) (wF := w3) (M := w.heap.size + 1 + 1) (lo := w3.heap.size) (A := fa ++ fb) (o := some (Co.mk 6 (tagC a1) lb [])) (b := true) (rfl) (fun c hc => ⟨[], by cases hc; exact Co.at_mk.2 ⟨_, rfl, CSl.nilA⟩, fun x hx => by cases hx⟩) HA.out (by omega) (by have := HZS.out; have := (hB3).size; omega) (below_trans HB0.out hB3)
  simp only [put4, Nat.zero_add] at FIN
  go_wp2_with fail
  exact bodyPost_ret (v := .tuple #[.agg #[.int .i64 6, .int .i64 (tagC a1), .int .i64 lb, .slice none 0 0], .bool (true)]) (by simp [results, Try.results95, go_sem, z0, z1, z2, z3]) rfl FIN
theorem across_any (n : Nat) (ih : CpiC n) : AcC n := by
  intro ga la gb lb a b d d' va vb fa fb w hd hd1 hd2 hs1 hs2 hata hatb
  by_cases hq : tagC a = tagC b
  · have hr : cmpo (n + 1) (.mk 4 ga la [a]) (.mk 5 gb lb [b]) = cmpo n a b := by simp [cmpo, cmpN, hq]
    rw [hr]
    exact across_same n ih ga la gb lb a b d d' va vb fa fb w hd hd1 hd2 hs1 hs2 hq hata hatb
  · have hr : cmpo (n + 1) (.mk 4 ga la [a]) (.mk 5 gb lb [b]) = some (.mk 6 (tagC a) lb []) := by simp [cmpo, cmpN, hq]
    rw [hr]
    exact across_diff n ih ga la gb lb a b d d' va vb fa fb w hd hd1 hd2 hs1 hs2 hq hata hatb
end Go.Proofs.Ytolhfcpmhhhjpaa
