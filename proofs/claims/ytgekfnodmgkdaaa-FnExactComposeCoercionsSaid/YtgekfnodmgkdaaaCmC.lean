/- The specification's l6Compose: an injection met by a projection; a failure behind a plain coercion. -/
import Derived.Test.YtgekfnodmgkdaaaCmB
import Derived.Test.YtgekfnodmgkdaaaTgs
import Derived.Test.YtgekfnodmgkdaaaReg
import Derived.Deep.RegionLaw
namespace Go.Proofs.Ytgekfnodmgkdaaa
open Go.RowKit

set_option maxRecDepth 100000 in
set_option maxHeartbeats 4000000 in
theorem l6Compose_meet (n : Nat) (ih : CmC n) (ga la gb lb : Int) (a b : Co) (d d' : Nat) (va vb : Value) (fa fb : List Nat) (w : World) (hd : d + d' ≤ n) (hd1 : d ≤ 9) (hd2 : d' ≤ 9) (hsa : shpK d a = true) (hsb : shpK d' b = true) (hq : tagC a = tagC b) (hata : (Co.mk 4 ga la [a]).At w va fa) (hatb : (Co.mk 5 gb lb [b]).At w vb fb) :
    Calls Try.prog 34 #[va, vb] w (MadeO w (cmpo (n + 1) (.mk 4 ga la [a]) (.mk 5 gb lb [b]))) := by
  have hr : cmpo (n + 1) (.mk 4 ga la [a]) (.mk 5 gb lb [b]) = cmpo n a b := by simp [cmpo, cmpN, hq]
  obtain ⟨sa, rfl, hsl⟩ := Co.at_mk.1 hata
  obtain ⟨ba, oa, ca, k1, g1, l1, n1, a1, c1, f1, rfl, hba, d0, d1, d2, d3, hA, _, hca⟩ := hsl.one
  obtain ⟨sb, rfl, hsr⟩ := Co.at_mk.1 hatb
  obtain ⟨bb, ob, cb, k2, g2, l2, n2, a2, c2, f2, rfl, hbb, e0, e1, e2, e3, hB, _, hcb⟩ := hsr.one
  have hb0 : Below w.heap.size w (((w.alloc (Obj.cells #[.int .i64 4, .int .i64 ga, .int .i64 la, .slice (some ⟨ba, oa, none⟩) 1 ca] 44)).alloc (Obj.cells #[.int .i64 5, .int .i64 gb, .int .i64 lb, .slice (some ⟨bb, ob, none⟩) 1 cb] 44)).alloc (Obj.cells #[.int .i64 0, .int .i64 0, .int .i64 0, .slice none 0 0] 44)) := (((Below.refl _ _).alloc (Nat.le_refl _) _).alloc (by simp) _).alloc (by simp; omega) _
  have hs0 : ((((w.alloc (Obj.cells #[.int .i64 4, .int .i64 ga, .int .i64 la, .slice (some ⟨ba, oa, none⟩) 1 ca] 44)).alloc (Obj.cells #[.int .i64 5, .int .i64 gb, .int .i64 lb, .slice (some ⟨bb, ob, none⟩) 1 cb] 44)).alloc (Obj.cells #[.int .i64 0, .int .i64 0, .int .i64 0, .slice none 0 0] 44))).heap.size = w.heap.size + 1 + 1 + 1 := by simp
  obtain ⟨bA, bB, bZ⟩ := three3 (Below.refl ((((w.alloc (Obj.cells #[.int .i64 4, .int .i64 ga, .int .i64 la, .slice (some ⟨ba, oa, none⟩) 1 ca] 44)).alloc (Obj.cells #[.int .i64 5, .int .i64 gb, .int .i64 lb, .slice (some ⟨bb, ob, none⟩) 1 cb] 44)).alloc (Obj.cells #[.int .i64 0, .int .i64 0, .int .i64 0, .slice none 0 0] 44))).heap.size (((w.alloc (Obj.cells #[.int .i64 4, .int .i64 ga, .int .i64 la, .slice (some ⟨ba, oa, none⟩) 1 ca] 44)).alloc (Obj.cells #[.int .i64 5, .int .i64 gb, .int .i64 lb, .slice (some ⟨bb, ob, none⟩) 1 cb] 44)).alloc (Obj.cells #[.int .i64 0, .int .i64 0, .int .i64 0, .slice none 0 0] 44)))
  have x0 : ((((w.alloc (Obj.cells #[.int .i64 4, .int .i64 ga, .int .i64 la, .slice (some ⟨ba, oa, none⟩) 1 ca] 44)).alloc (Obj.cells #[.int .i64 5, .int .i64 gb, .int .i64 lb, .slice (some ⟨bb, ob, none⟩) 1 cb] 44)).alloc (Obj.cells #[.int .i64 0, .int .i64 0, .int .i64 0, .slice none 0 0] 44))).cell? ⟨w.heap.size, 0, none⟩ = some (.int .i64 4) := by rw [cell_of_block bA]; rfl
  have x1 : ((((w.alloc (Obj.cells #[.int .i64 4, .int .i64 ga, .int .i64 la, .slice (some ⟨ba, oa, none⟩) 1 ca] 44)).alloc (Obj.cells #[.int .i64 5, .int .i64 gb, .int .i64 lb, .slice (some ⟨bb, ob, none⟩) 1 cb] 44)).alloc (Obj.cells #[.int .i64 0, .int .i64 0, .int .i64 0, .slice none 0 0] 44))).cell? ⟨w.heap.size, 1, none⟩ = some (.int .i64 ga) := by rw [cell_of_block bA]; rfl
  have x2 : ((((w.alloc (Obj.cells #[.int .i64 4, .int .i64 ga, .int .i64 la, .slice (some ⟨ba, oa, none⟩) 1 ca] 44)).alloc (Obj.cells #[.int .i64 5, .int .i64 gb, .int .i64 lb, .slice (some ⟨bb, ob, none⟩) 1 cb] 44)).alloc (Obj.cells #[.int .i64 0, .int .i64 0, .int .i64 0, .slice none 0 0] 44))).cell? ⟨w.heap.size, 2, none⟩ = some (.int .i64 la) := by rw [cell_of_block bA]; rfl
  have x3 : ((((w.alloc (Obj.cells #[.int .i64 4, .int .i64 ga, .int .i64 la, .slice (some ⟨ba, oa, none⟩) 1 ca] 44)).alloc (Obj.cells #[.int .i64 5, .int .i64 gb, .int .i64 lb, .slice (some ⟨bb, ob, none⟩) 1 cb] 44)).alloc (Obj.cells #[.int .i64 0, .int .i64 0, .int .i64 0, .slice none 0 0] 44))).cell? ⟨w.heap.size, 3, none⟩ = some (.slice (some ⟨ba, oa, none⟩) 1 ca) := by rw [cell_of_block bA]; rfl
  have y0 : ((((w.alloc (Obj.cells #[.int .i64 4, .int .i64 ga, .int .i64 la, .slice (some ⟨ba, oa, none⟩) 1 ca] 44)).alloc (Obj.cells #[.int .i64 5, .int .i64 gb, .int .i64 lb, .slice (some ⟨bb, ob, none⟩) 1 cb] 44)).alloc (Obj.cells #[.int .i64 0, .int .i64 0, .int .i64 0, .slice none 0 0] 44))).cell? ⟨w.heap.size + 1, 0, none⟩ = some (.int .i64 5) := by rw [cell_of_block bB]; rfl
  have y1 : ((((w.alloc (Obj.cells #[.int .i64 4, .int .i64 ga, .int .i64 la, .slice (some ⟨ba, oa, none⟩) 1 ca] 44)).alloc (Obj.cells #[.int .i64 5, .int .i64 gb, .int .i64 lb, .slice (some ⟨bb, ob, none⟩) 1 cb] 44)).alloc (Obj.cells #[.int .i64 0, .int .i64 0, .int .i64 0, .slice none 0 0] 44))).cell? ⟨w.heap.size + 1, 1, none⟩ = some (.int .i64 gb) := by rw [cell_of_block bB]; rfl
  have y2 : ((((w.alloc (Obj.cells #[.int .i64 4, .int .i64 ga, .int .i64 la, .slice (some ⟨ba, oa, none⟩) 1 ca] 44)).alloc (Obj.cells #[.int .i64 5, .int .i64 gb, .int .i64 lb, .slice (some ⟨bb, ob, none⟩) 1 cb] 44)).alloc (Obj.cells #[.int .i64 0, .int .i64 0, .int .i64 0, .slice none 0 0] 44))).cell? ⟨w.heap.size + 1, 2, none⟩ = some (.int .i64 lb) := by rw [cell_of_block bB]; rfl
  have y3 : ((((w.alloc (Obj.cells #[.int .i64 4, .int .i64 ga, .int .i64 la, .slice (some ⟨ba, oa, none⟩) 1 ca] 44)).alloc (Obj.cells #[.int .i64 5, .int .i64 gb, .int .i64 lb, .slice (some ⟨bb, ob, none⟩) 1 cb] 44)).alloc (Obj.cells #[.int .i64 0, .int .i64 0, .int .i64 0, .slice none 0 0] 44))).cell? ⟨w.heap.size + 1, 3, none⟩ = some (.slice (some ⟨bb, ob, none⟩) 1 cb) := by rw [cell_of_block bB]; rfl
  replace d0 := cell_keep d0 hb0
  replace d1 := cell_keep d1 hb0
  replace d2 := cell_keep d2 hb0
  replace d3 := cell_keep d3 hb0
  replace e0 := cell_keep e0 hb0
  replace e1 := cell_keep e1 hb0
  replace e2 := cell_keep e2 hb0
  replace e3 := cell_keep e3 hb0
  have HM := hid (fun (w' : World) (h : Below ((((w.alloc (Obj.cells #[.int .i64 4, .int .i64 ga, .int .i64 la, .slice (some ⟨ba, oa, none⟩) 1 ca] 44)).alloc (Obj.cells #[.int .i64 5, .int .i64 gb, .int .i64 lb, .slice (some ⟨bb, ob, none⟩) 1 cb] 44)).alloc (Obj.cells #[.int .i64 0, .int .i64 0, .int .i64 0, .slice none 0 0] 44))).heap.size (((w.alloc (Obj.cells #[.int .i64 4, .int .i64 ga, .int .i64 la, .slice (some ⟨ba, oa, none⟩) 1 ca] 44)).alloc (Obj.cells #[.int .i64 5, .int .i64 gb, .int .i64 lb, .slice (some ⟨bb, ob, none⟩) 1 cb] 44)).alloc (Obj.cells #[.int .i64 0, .int .i64 0, .int .i64 0, .slice none 0 0] 44)) w') => (h.block (w.heap.size + 1 + 1) (by omega)).trans bZ)
  have HB := hid hb0
  have HZ0 := hid hs0
  have HS0 := hid (show ∀ w', Below ((((w.alloc (Obj.cells #[.int .i64 4, .int .i64 ga, .int .i64 la, .slice (some ⟨ba, oa, none⟩) 1 ca] 44)).alloc (Obj.cells #[.int .i64 5, .int .i64 gb, .int .i64 lb, .slice (some ⟨bb, ob, none⟩) 1 cb] 44)).alloc (Obj.cells #[.int .i64 0, .int .i64 0, .int .i64 0, .slice none 0 0] 44))).heap.size (((w.alloc (Obj.cells #[.int .i64 4, .int .i64 ga, .int .i64 la, .slice (some ⟨ba, oa, none⟩) 1 ca] 44)).alloc (Obj.cells #[.int .i64 5, .int .i64 gb, .int .i64 lb, .slice (some ⟨bb, ob, none⟩) 1 cb] 44)).alloc (Obj.cells #[.int .i64 0, .int .i64 0, .int .i64 0, .slice none 0 0] 44)) w' → (fun w' => w'.cell? ⟨w.heap.size, 0, none⟩ = some (.int .i64 4) ∧ w'.cell? ⟨w.heap.size, 1, none⟩ = some (.int .i64 ga) ∧ w'.cell? ⟨w.heap.size, 2, none⟩ = some (.int .i64 la) ∧ w'.cell? ⟨w.heap.size, 3, none⟩ = some (.slice (some ⟨ba, oa, none⟩) 1 ca) ∧ w'.cell? ⟨w.heap.size + 1, 0, none⟩ = some (.int .i64 5) ∧ w'.cell? ⟨w.heap.size + 1, 1, none⟩ = some (.int .i64 gb) ∧ w'.cell? ⟨w.heap.size + 1, 2, none⟩ = some (.int .i64 lb) ∧ w'.cell? ⟨w.heap.size + 1, 3, none⟩ = some (.slice (some ⟨bb, ob, none⟩) 1 cb) ∧ w'.cell? ⟨ba, oa, none⟩ = some (.int .i64 k1) ∧ w'.cell? ⟨ba, oa + 1, none⟩ = some (.int .i64 g1) ∧ w'.cell? ⟨ba, oa + 2, none⟩ = some (.int .i64 l1) ∧ w'.cell? ⟨ba, oa + 3, none⟩ = some (.slice a1 n1 c1) ∧ w'.cell? ⟨bb, ob, none⟩ = some (.int .i64 k2) ∧ w'.cell? ⟨bb, ob + 1, none⟩ = some (.int .i64 g2) ∧ w'.cell? ⟨bb, ob + 2, none⟩ = some (.int .i64 l2) ∧ w'.cell? ⟨bb, ob + 3, none⟩ = some (.slice a2 n2 c2)) w' from fun w' h => ⟨cell_keep x0 h, cell_keep x1 h, cell_keep x2 h, cell_keep x3 h, cell_keep y0 h, cell_keep y1 h, cell_keep y2 h, cell_keep y3 h, cell_keep d0 h, cell_keep d1 h, cell_keep d2 h, cell_keep d3 h, cell_keep e0 h, cell_keep e1 h, cell_keep e2 h, cell_keep e3 h⟩)
  have H := hid (And.intro (hA.below hb0) (hB.below hb0))
  have HP := hid (And.intro hd (And.intro hsa hsb))
  have HTA := hid (tagWf_shp hsa)
  have HTB := hid (tagWf_shp hsb)
  have HIH := hid ih
  have HR := hid hr
  have q9 : (tagC a == tagC b) = true := by simpa using hq
  generalize hta : tagC a = ta at *
  generalize htb : tagC b = tb at *
  have HGA := hid hta
  have HGB := hid htb
  clear ih hb0 hs0 bA bB bZ hata hatb hsl hsr hA hB hsa hsb hr hd hq hta htb
  go_enter Try.func34, Try.ntmps34
  go_wp2_with fail
  refine wp_region_held_drew (S := (fun w' => Below ((((w.alloc (Obj.cells #[.int .i64 4, .int .i64 ga, .int .i64 la, .slice (some ⟨ba, oa, none⟩) 1 ca] 44)).alloc (Obj.cells #[.int .i64 5, .int .i64 gb, .int .i64 lb, .slice (some ⟨bb, ob, none⟩) 1 cb] 44)).alloc (Obj.cells #[.int .i64 0, .int .i64 0, .int .i64 0, .slice none 0 0] 44))).heap.size (((w.alloc (Obj.cells #[.int .i64 4, .int .i64 ga, .int .i64 la, .slice (some ⟨ba, oa, none⟩) 1 ca] 44)).alloc (Obj.cells #[.int .i64 5, .int .i64 gb, .int .i64 lb, .slice (some ⟨bb, ob, none⟩) 1 cb] 44)).alloc (Obj.cells #[.int .i64 0, .int .i64 0, .int .i64 0, .slice none 0 0] 44)) w' ∧ w'.cell? ⟨w.heap.size, 0, none⟩ = some (.int .i64 4) ∧ w'.cell? ⟨w.heap.size, 1, none⟩ = some (.int .i64 ga) ∧ w'.cell? ⟨w.heap.size, 2, none⟩ = some (.int .i64 la) ∧ w'.cell? ⟨w.heap.size, 3, none⟩ = some (.slice (some ⟨ba, oa, none⟩) 1 ca) ∧ w'.cell? ⟨w.heap.size + 1, 0, none⟩ = some (.int .i64 5) ∧ w'.cell? ⟨w.heap.size + 1, 1, none⟩ = some (.int .i64 gb) ∧ w'.cell? ⟨w.heap.size + 1, 2, none⟩ = some (.int .i64 lb) ∧ w'.cell? ⟨w.heap.size + 1, 3, none⟩ = some (.slice (some ⟨bb, ob, none⟩) 1 cb) ∧ w'.cell? ⟨ba, oa, none⟩ = some (.int .i64 k1) ∧ w'.cell? ⟨ba, oa + 1, none⟩ = some (.int .i64 g1) ∧ w'.cell? ⟨ba, oa + 2, none⟩ = some (.int .i64 l1) ∧ w'.cell? ⟨ba, oa + 3, none⟩ = some (.slice a1 n1 c1) ∧ w'.cell? ⟨bb, ob, none⟩ = some (.int .i64 k2) ∧ w'.cell? ⟨bb, ob + 1, none⟩ = some (.int .i64 g2) ∧ w'.cell? ⟨bb, ob + 2, none⟩ = some (.int .i64 l2) ∧ w'.cell? ⟨bb, ob + 3, none⟩ = some (.slice a2 n2 c2))) (by kernel_rfl) ?_ (fun hS0 => ?_)
  · (refine (fun hB => ⟨hB, cell_keep x0 hB, cell_keep x1 hB, cell_keep x2 hB, cell_keep x3 hB, cell_keep y0 hB, cell_keep y1 hB, cell_keep y2 hB, cell_keep y3 hB, cell_keep d0 hB, cell_keep d1 hB, cell_keep d2 hB, cell_keep d3 hB, cell_keep e0 hB, cell_keep e1 hB, cell_keep e2 hB, cell_keep e3 hB⟩ : Below ((((w.alloc (Obj.cells #[.int .i64 4, .int .i64 ga, .int .i64 la, .slice (some ⟨ba, oa, none⟩) 1 ca] 44)).alloc (Obj.cells #[.int .i64 5, .int .i64 gb, .int .i64 lb, .slice (some ⟨bb, ob, none⟩) 1 cb] 44)).alloc (Obj.cells #[.int .i64 0, .int .i64 0, .int .i64 0, .slice none 0 0] 44))).heap.size (((w.alloc (Obj.cells #[.int .i64 4, .int .i64 ga, .int .i64 la, .slice (some ⟨ba, oa, none⟩) 1 ca] 44)).alloc (Obj.cells #[.int .i64 5, .int .i64 gb, .int .i64 lb, .slice (some ⟨bb, ob, none⟩) 1 cb] 44)).alloc (Obj.cells #[.int .i64 0, .int .i64 0, .int .i64 0, .slice none 0 0] 44)) _ → _) ?_; exact below_drew _)
  refine regTake (i := 0) (v := ?vg0) rfl (by kernel_rfl) (by kernel_rfl) (by kernel_rfl) (fun _ _ _ h => h) (Or.inl ⟨by rfl, ?hyg0⟩) (by assumption) ?_
  case hyg0 => (intro w hSw; (try dsimp only at hSw); go_simp; (try with_reducible rfl))
  try simp only [Act.put, List.setIfInBounds_toArray, List.set_cons_zero, List.set_cons_succ]
  refine regTake (i := 1) (v := ?vg1) rfl (by kernel_rfl) (by kernel_rfl) (by kernel_rfl) (fun _ _ _ h => h) (Or.inl ⟨by rfl, ?hyg1⟩) (by assumption) ?_
  case hyg1 => (intro w hSw; (try dsimp only at hSw); go_simp; (try with_reducible rfl))
  try simp only [Act.put, List.setIfInBounds_toArray, List.set_cons_zero, List.set_cons_succ]
  refine regTake (i := 2) (v := ?vg2) rfl (by kernel_rfl) (by kernel_rfl) (by kernel_rfl) (fun _ _ _ h => h) (Or.inl ⟨by rfl, ?hyg2⟩) (by assumption) ?_
  case hyg2 => (intro w hSw; (try dsimp only at hSw); go_simp; (try with_reducible rfl))
  try simp only [Act.put, List.setIfInBounds_toArray, List.set_cons_zero, List.set_cons_succ]
  refine regTake (i := 3) (v := ?vg3) rfl (by kernel_rfl) (by kernel_rfl) (by kernel_rfl) (fun _ _ _ h => h) (Or.inl ⟨by rfl, ?hyg3⟩) (by assumption) ?_
  case hyg3 => (intro w hSw; (try dsimp only at hSw); go_simp; (try with_reducible rfl))
  try simp only [Act.put, List.setIfInBounds_toArray, List.set_cons_zero, List.set_cons_succ]
  refine regTake (i := 5) (v := ?vg5) rfl (by kernel_rfl) (by kernel_rfl) (by kernel_rfl) (fun _ _ _ h => h) (Or.inl ⟨by rfl, ?hyg5⟩) (by assumption) ?_
  case hyg5 => (intro w hSw; (try dsimp only at hSw); go_simp; (try with_reducible rfl))
  try simp only [Act.put, List.setIfInBounds_toArray, List.set_cons_zero, List.set_cons_succ]
  refine regTake (i := 6) (v := ?vg6) rfl (by kernel_rfl) (by kernel_rfl) (by kernel_rfl) (fun _ _ _ h => h) (Or.inl ⟨by rfl, ?hyg6⟩) (by assumption) ?_
  case hyg6 => (intro w hSw; (try dsimp only at hSw); go_simp; (try with_reducible rfl))
  try simp only [Act.put, List.setIfInBounds_toArray, List.set_cons_zero, List.set_cons_succ]
  refine regTake (i := 7) (v := ?vg7) rfl (by kernel_rfl) (by kernel_rfl) (by kernel_rfl) (fun _ _ _ h => h) (Or.inl ⟨by rfl, ?hyg7⟩) (by assumption) ?_
  case hyg7 => (intro w hSw; (try dsimp only at hSw); go_simp; (try with_reducible rfl))
  try simp only [Act.put, List.setIfInBounds_toArray, List.set_cons_zero, List.set_cons_succ]
  refine regTake (i := 8) (v := ?vg8) rfl (by kernel_rfl) (by kernel_rfl) (by kernel_rfl) (fun _ _ _ h => h) (Or.inl ⟨by rfl, ?hyg8⟩) (by assumption) ?_
  case hyg8 => (intro w hSw; (try dsimp only at hSw); go_simp; (try with_reducible rfl))
  try simp only [Act.put, List.setIfInBounds_toArray, List.set_cons_zero, List.set_cons_succ]
  refine wpAnyH_ready (rs := [4]) (by kernel_rfl) (by simp) ?_
  refine regCons rfl (fun K hK => ?_)
  go_simp
  refine (tag_any d _ _ _ _ HTA.out (H.out.1.below (below_drew ((((w.alloc (Obj.cells #[.int .i64 4, .int .i64 ga, .int .i64 la, .slice (some ⟨ba, oa, none⟩) 1 ca] 44)).alloc (Obj.cells #[.int .i64 5, .int .i64 gb, .int .i64 lb, .slice (some ⟨bb, ob, none⟩) 1 cb] 44)).alloc (Obj.cells #[.int .i64 0, .int .i64 0, .int .i64 0, .slice none 0 0] 44)))))).mono ?_
  rw [HGA.out]
  rintro e w1 ⟨rfl, hy0⟩
  have hk0 := below_trans (below_drew ((((w.alloc (Obj.cells #[.int .i64 4, .int .i64 ga, .int .i64 la, .slice (some ⟨ba, oa, none⟩) 1 ca] 44)).alloc (Obj.cells #[.int .i64 5, .int .i64 gb, .int .i64 lb, .slice (some ⟨bb, ob, none⟩) 1 cb] 44)).alloc (Obj.cells #[.int .i64 0, .int .i64 0, .int .i64 0, .slice none 0 0] 44)))) hy0
  refine hK.out _ _ ?_ (fun hS1 => ?_)
  · (refine (fun hB => ⟨hB, cell_keep x0 hB, cell_keep x1 hB, cell_keep x2 hB, cell_keep x3 hB, cell_keep y0 hB, cell_keep y1 hB, cell_keep y2 hB, cell_keep y3 hB, cell_keep d0 hB, cell_keep d1 hB, cell_keep d2 hB, cell_keep d3 hB, cell_keep e0 hB, cell_keep e1 hB, cell_keep e2 hB, cell_keep e3 hB⟩ : Below ((((w.alloc (Obj.cells #[.int .i64 4, .int .i64 ga, .int .i64 la, .slice (some ⟨ba, oa, none⟩) 1 ca] 44)).alloc (Obj.cells #[.int .i64 5, .int .i64 gb, .int .i64 lb, .slice (some ⟨bb, ob, none⟩) 1 cb] 44)).alloc (Obj.cells #[.int .i64 0, .int .i64 0, .int .i64 0, .slice none 0 0] 44))).heap.size (((w.alloc (Obj.cells #[.int .i64 4, .int .i64 ga, .int .i64 la, .slice (some ⟨ba, oa, none⟩) 1 ca] 44)).alloc (Obj.cells #[.int .i64 5, .int .i64 gb, .int .i64 lb, .slice (some ⟨bb, ob, none⟩) 1 cb] 44)).alloc (Obj.cells #[.int .i64 0, .int .i64 0, .int .i64 0, .slice none 0 0] 44)) _ → _) ?_; exact hk0)
  clear hK K hS0
  try simp only [Act.put, List.setIfInBounds_toArray, List.set_cons_zero, List.set_cons_succ]
  refine wpAnyH_ready (rs := [9]) (by kernel_rfl) (by simp) ?_
  refine regCons rfl (fun K hK => ?_)
  go_simp
  refine (tag_any d' _ _ _ _ HTB.out (H.out.2.below hk0)).mono ?_
  rw [HGB.out]
  rintro e w2 ⟨rfl, hy1⟩
  have hk1 := below_trans hk0 hy1
  refine hK.out _ _ ?_ (fun hS2 => ?_)
  · (refine (fun hB => ⟨hB, cell_keep x0 hB, cell_keep x1 hB, cell_keep x2 hB, cell_keep x3 hB, cell_keep y0 hB, cell_keep y1 hB, cell_keep y2 hB, cell_keep y3 hB, cell_keep d0 hB, cell_keep d1 hB, cell_keep d2 hB, cell_keep d3 hB, cell_keep e0 hB, cell_keep e1 hB, cell_keep e2 hB, cell_keep e3 hB⟩ : Below ((((w.alloc (Obj.cells #[.int .i64 4, .int .i64 ga, .int .i64 la, .slice (some ⟨ba, oa, none⟩) 1 ca] 44)).alloc (Obj.cells #[.int .i64 5, .int .i64 gb, .int .i64 lb, .slice (some ⟨bb, ob, none⟩) 1 cb] 44)).alloc (Obj.cells #[.int .i64 0, .int .i64 0, .int .i64 0, .slice none 0 0] 44))).heap.size (((w.alloc (Obj.cells #[.int .i64 4, .int .i64 ga, .int .i64 la, .slice (some ⟨ba, oa, none⟩) 1 ca] 44)).alloc (Obj.cells #[.int .i64 5, .int .i64 gb, .int .i64 lb, .slice (some ⟨bb, ob, none⟩) 1 cb] 44)).alloc (Obj.cells #[.int .i64 0, .int .i64 0, .int .i64 0, .slice none 0 0] 44)) _ → _) ?_; exact hk1)
  clear hK K hS1
  try simp only [Act.put, List.setIfInBounds_toArray, List.set_cons_zero, List.set_cons_succ]
  refine regTake (i := 10) (v := ?vg10) rfl (by kernel_rfl) (by kernel_rfl) (by kernel_rfl) (fun _ _ _ h => h) (Or.inl ⟨by rfl, ?hyg10⟩) (by assumption) ?_
  case hyg10 => (intro w hSw; (try dsimp only at hSw); go_simp; (try with_reducible rfl))
  try simp only [Act.put, List.setIfInBounds_toArray, List.set_cons_zero, List.set_cons_succ]
  refine wpAnyH_done (by kernel_rfl) ?_ _
  clear hS2 hy0 hy1 hk0
  have HK := hid hk1
  have hSS := HS0.out _ hk1
  clear hk1 x0 x1 x2 x3 y0 y1 y2 y3 d0 d1 d2 d3 e0 e1 e2 e3
  obtain ⟨x0, x1, x2, x3, y0, y1, y2, y3, d0, d1, d2, d3, e0, e1, e2, e3⟩ := hSS
  go_wp2_with fail
  refine regionL (s := 11) (S0 := (fun w' => w'.cell? ⟨w.heap.size, 0, none⟩ = some (.int .i64 4) ∧ w'.cell? ⟨w.heap.size, 1, none⟩ = some (.int .i64 ga) ∧ w'.cell? ⟨w.heap.size, 2, none⟩ = some (.int .i64 la) ∧ w'.cell? ⟨w.heap.size, 3, none⟩ = some (.slice (some ⟨ba, oa, none⟩) 1 ca) ∧ w'.cell? ⟨w.heap.size + 1, 0, none⟩ = some (.int .i64 5) ∧ w'.cell? ⟨w.heap.size + 1, 1, none⟩ = some (.int .i64 gb) ∧ w'.cell? ⟨w.heap.size + 1, 2, none⟩ = some (.int .i64 lb) ∧ w'.cell? ⟨w.heap.size + 1, 3, none⟩ = some (.slice (some ⟨bb, ob, none⟩) 1 cb) ∧ w'.cell? ⟨ba, oa, none⟩ = some (.int .i64 k1) ∧ w'.cell? ⟨ba, oa + 1, none⟩ = some (.int .i64 g1) ∧ w'.cell? ⟨ba, oa + 2, none⟩ = some (.int .i64 l1) ∧ w'.cell? ⟨ba, oa + 3, none⟩ = some (.slice a1 n1 c1) ∧ w'.cell? ⟨bb, ob, none⟩ = some (.int .i64 k2) ∧ w'.cell? ⟨bb, ob + 1, none⟩ = some (.int .i64 g2) ∧ w'.cell? ⟨bb, ob + 2, none⟩ = some (.int .i64 l2) ∧ w'.cell? ⟨bb, ob + 3, none⟩ = some (.slice a2 n2 c2))) (S1 := (fun _ => True)) (by kernel_rfl) (HS0.out _ (below_trans HK.out (below_drew _))) (trivial) (fun hS0 => ?_)
  refine takeL0 (i := 0) (v := ?vq1) rfl rfl (by kernel_rfl) (by kernel_rfl) (by kernel_rfl) (by decide) (by kernel_rfl) (by kernel_rfl) (fun _ _ _ h => h) (Or.inl ⟨by rfl, ?hyq1⟩) (by assumption) ?_
  case hyq1 => (intro w hSw; (try dsimp only at hSw); go_simp; (try with_reducible rfl))
  try simp only [Act.put, List.setIfInBounds_toArray, List.set_cons_zero, List.set_cons_succ]
  refine takeL0 (i := 1) (v := ?vq2) rfl rfl (by kernel_rfl) (by kernel_rfl) (by kernel_rfl) (by decide) (by kernel_rfl) (by kernel_rfl) (fun _ _ _ h => h) (Or.inl ⟨by rfl, ?hyq2⟩) (by assumption) ?_
  case hyq2 => (intro w hSw; (try dsimp only at hSw); go_simp; (try with_reducible rfl))
  try simp only [Act.put, List.setIfInBounds_toArray, List.set_cons_zero, List.set_cons_succ]
  refine takeL0 (i := 2) (v := ?vq3) rfl rfl (by kernel_rfl) (by kernel_rfl) (by kernel_rfl) (by decide) (by kernel_rfl) (by kernel_rfl) (fun _ _ _ h => h) (Or.inl ⟨by rfl, ?hyq3⟩) (by assumption) ?_
  case hyq3 => (intro w hSw; (try dsimp only at hSw); go_simp; (try with_reducible rfl))
  try simp only [Act.put, List.setIfInBounds_toArray, List.set_cons_zero, List.set_cons_succ]
  refine takeL0 (i := 3) (v := ?vq4) rfl rfl (by kernel_rfl) (by kernel_rfl) (by kernel_rfl) (by decide) (by kernel_rfl) (by kernel_rfl) (fun _ _ _ h => h) (Or.inl ⟨by rfl, ?hyq4⟩) (by assumption) ?_
  case hyq4 => (intro w hSw; (try dsimp only at hSw); go_simp; (try with_reducible rfl))
  try simp only [Act.put, List.setIfInBounds_toArray, List.set_cons_zero, List.set_cons_succ]
  refine takeL0 (i := 4) (v := ?vq5) rfl rfl (by kernel_rfl) (by kernel_rfl) (by kernel_rfl) (by decide) (by kernel_rfl) (by kernel_rfl) (fun _ _ _ h => h) (Or.inl ⟨by rfl, ?hyq5⟩) (by assumption) ?_
  case hyq5 => (intro w hSw; (try dsimp only at hSw); go_simp; (try with_reducible rfl))
  try simp only [Act.put, List.setIfInBounds_toArray, List.set_cons_zero, List.set_cons_succ]
  refine takeL0 (i := 5) (v := ?vq6) rfl rfl (by kernel_rfl) (by kernel_rfl) (by kernel_rfl) (by decide) (by kernel_rfl) (by kernel_rfl) (fun _ _ _ h => h) (Or.inl ⟨by rfl, ?hyq6⟩) (by assumption) ?_
  case hyq6 => (intro w hSw; (try dsimp only at hSw); go_simp; (try with_reducible rfl))
  try simp only [Act.put, List.setIfInBounds_toArray, List.set_cons_zero, List.set_cons_succ]
  refine takeL0 (i := 6) (v := ?vq7) rfl rfl (by kernel_rfl) (by kernel_rfl) (by kernel_rfl) (by decide) (by kernel_rfl) (by kernel_rfl) (fun _ _ _ h => h) (Or.inl ⟨by rfl, ?hyq7⟩) (by assumption) ?_
  case hyq7 => (intro w hSw; (try dsimp only at hSw); go_simp; (try with_reducible rfl))
  try simp only [Act.put, List.setIfInBounds_toArray, List.set_cons_zero, List.set_cons_succ]
  refine takeL0 (i := 7) (v := ?vq8) rfl rfl (by kernel_rfl) (by kernel_rfl) (by kernel_rfl) (by decide) (by kernel_rfl) (by kernel_rfl) (fun _ _ _ h => h) (Or.inl ⟨by rfl, ?hyq8⟩) (by assumption) ?_
  case hyq8 => (intro w hSw; (try dsimp only at hSw); go_simp; (try with_reducible rfl))
  try simp only [Act.put, List.setIfInBounds_toArray, List.set_cons_zero, List.set_cons_succ]
  refine readyL (rs := [8]) (by kernel_rfl) (by simp) ?_
  refine AllReadyL.cons rfl (fun K hK => ?_) AllReadyL.nil
  go_simp
  refine (cm_from HIH.out (W0 := (((w.alloc (Obj.cells #[.int .i64 4, .int .i64 ga, .int .i64 la, .slice (some ⟨ba, oa, none⟩) 1 ca] 44)).alloc (Obj.cells #[.int .i64 5, .int .i64 gb, .int .i64 lb, .slice (some ⟨bb, ob, none⟩) 1 cb] 44)).alloc (Obj.cells #[.int .i64 0, .int .i64 0, .int .i64 0, .slice none 0 0] 44))) (below_trans HK.out (below_drew _)) HP.out.1 hd1 hd2 HP.out.2.1 HP.out.2.2 H.out.1 H.out.2).mono ?_
  rintro e w3 ⟨⟨p0, p1, p2, pa, pn, pc, rfl, hb3, hO⟩, hU⟩
  have hB3 := below_trans hU hb3
  have hU1 := hU.size
  refine hK.out _ _ ?_ (fun hS1 => ?_)
  · exact ⟨trivial, fun _ => HS0.out _ hB3⟩
  clear hK K hS0
  try simp only [Act.put, List.setIfInBounds_toArray, List.set_cons_zero, List.set_cons_succ]
  refine readyL (rs := [9, 10]) (by kernel_rfl) (by simp) ?_
  refine AllReadyL.cons rfl (fun K hK => ?_) ?_
  · go_simp
    refine hK.out _ _ ?_ (fun hS2 => ?_)
    · exact ⟨trivial, fun _ => HS0.out _ hB3⟩
    clear hK K hS1
    try simp only [Act.put, List.setIfInBounds_toArray, List.set_cons_zero, List.set_cons_succ]
    refine readyL (rs := [10]) (by kernel_rfl) (by simp) ?_
    refine AllReadyL.cons rfl (fun K hK => ?_) AllReadyL.nil
    go_simp
    refine hK.out _ _ ?_ (fun hS3 => ?_)
    · exact ⟨trivial, fun _ => HS0.out _ hB3⟩
    clear hK K hS2
    try simp only [Act.put, List.setIfInBounds_toArray, List.set_cons_zero, List.set_cons_succ]
    refine readyL (rs := [11]) (by kernel_rfl) (by simp) ?_
    refine AllReadyL.cons rfl (fun K hK => ?_) AllReadyL.nil
    have bM := HM.out _ hB3
    have z0 := (cell_of_block (o := 0) bM).trans (show _ = some (.int .i64 0) from rfl)
    have z1 := (cell_of_block (o := 1) bM).trans (show _ = some (.int .i64 0) from rfl)
    have z2 := (cell_of_block (o := 2) bM).trans (show _ = some (.int .i64 0) from rfl)
    have z3 := (cell_of_block (o := 3) bM).trans (show _ = some (.slice none 0 0) from rfl)
    have yz := fun o => frozen_of_block (o := o) bM
    go_simp
    refine hK.out _ _ ?_ (fun hS4 => ?_)
    · exact ⟨trivial, fun h => absurd (h.symm.trans (show _ = true by kernel_rfl)) (by decide)⟩
    clear hK K hS3
    try simp only [Act.put, List.setIfInBounds_toArray, List.set_cons_zero, List.set_cons_succ]
    refine readyL (rs := [12]) (by kernel_rfl) (by simp) ?_
    refine AllReadyL.cons rfl (fun K hK => ?_) AllReadyL.nil
    go_simp
    refine hK.out _ _ ?_ (fun hS5 => ?_)
    · exact ⟨trivial, fun h => absurd (h.symm.trans (show _ = true by kernel_rfl)) (by decide)⟩
    clear hK K hS4
    try simp only [Act.put, List.setIfInBounds_toArray, List.set_cons_zero, List.set_cons_succ]
    refine doneL (by kernel_rfl) ?_ _
    have FIN := closeO (w := w) (wF := w3) (M := w.heap.size + 1 + 1) (lo := w.heap.size + 1 + 1 + 1) (o := cmpo n a b) (b := (cmpo n a b).isSome) rfl (fun c hc => by obtain ⟨fp, h1, h2⟩ := hO c hc; exact ⟨fp, h1, h2.mono (by have := HZ0.out; omega)⟩) (by omega) (by omega) (below_trans HB.out hB3)
    try clear hO
    simp only [put4, Nat.zero_add] at FIN
    go_wp2_with fail
    exact bodyPost_ret (v := .tuple #[.agg #[.int .i64 p0, .int .i64 p1, .int .i64 p2, .slice pa pn pc], .bool (cmpo n a b).isSome]) (by simp [results, Try.results34, go_sem, z0, z1, z2, z3]) rfl (by rw [HR.out]; exact FIN)
  refine AllReadyL.cons rfl (fun K hK => ?_) AllReadyL.nil
  go_simp
  refine hK.out _ _ ?_ (fun hS2 => ?_)
  · exact ⟨trivial, fun _ => HS0.out _ hB3⟩
  clear hK K hS1
  try simp only [Act.put, List.setIfInBounds_toArray, List.set_cons_zero, List.set_cons_succ]
  refine readyL (rs := [9]) (by kernel_rfl) (by simp) ?_
  refine AllReadyL.cons rfl (fun K hK => ?_) AllReadyL.nil
  go_simp
  refine hK.out _ _ ?_ (fun hS3 => ?_)
  · exact ⟨trivial, fun _ => HS0.out _ hB3⟩
  clear hK K hS2
  try simp only [Act.put, List.setIfInBounds_toArray, List.set_cons_zero, List.set_cons_succ]
  refine readyL (rs := [11]) (by kernel_rfl) (by simp) ?_
  refine AllReadyL.cons rfl (fun K hK => ?_) AllReadyL.nil
  have bM := HM.out _ hB3
  have z0 := (cell_of_block (o := 0) bM).trans (show _ = some (.int .i64 0) from rfl)
  have z1 := (cell_of_block (o := 1) bM).trans (show _ = some (.int .i64 0) from rfl)
  have z2 := (cell_of_block (o := 2) bM).trans (show _ = some (.int .i64 0) from rfl)
  have z3 := (cell_of_block (o := 3) bM).trans (show _ = some (.slice none 0 0) from rfl)
  have yz := fun o => frozen_of_block (o := o) bM
  go_simp
  refine hK.out _ _ ?_ (fun hS4 => ?_)
  · exact ⟨trivial, fun h => absurd (h.symm.trans (show _ = true by kernel_rfl)) (by decide)⟩
  clear hK K hS3
  try simp only [Act.put, List.setIfInBounds_toArray, List.set_cons_zero, List.set_cons_succ]
  refine readyL (rs := [12]) (by kernel_rfl) (by simp) ?_
  refine AllReadyL.cons rfl (fun K hK => ?_) AllReadyL.nil
  go_simp
  refine hK.out _ _ ?_ (fun hS5 => ?_)
  · exact ⟨trivial, fun h => absurd (h.symm.trans (show _ = true by kernel_rfl)) (by decide)⟩
  clear hK K hS4
  try simp only [Act.put, List.setIfInBounds_toArray, List.set_cons_zero, List.set_cons_succ]
  refine doneL (by kernel_rfl) ?_ _
  have FIN := closeO (w := w) (wF := w3) (M := w.heap.size + 1 + 1) (lo := w.heap.size + 1 + 1 + 1) (o := cmpo n a b) (b := (cmpo n a b).isSome) rfl (fun c hc => by obtain ⟨fp, h1, h2⟩ := hO c hc; exact ⟨fp, h1, h2.mono (by have := HZ0.out; omega)⟩) (by omega) (by omega) (below_trans HB.out hB3)
  try clear hO
  simp only [put4, Nat.zero_add] at FIN
  go_wp2_with fail
  exact bodyPost_ret (v := .tuple #[.agg #[.int .i64 p0, .int .i64 p1, .int .i64 p2, .slice pa pn pc], .bool (cmpo n a b).isSome]) (by simp [results, Try.results34, go_sem, z0, z1, z2, z3]) rfl (by rw [HR.out]; exact FIN)

set_option maxRecDepth 100000 in
set_option maxHeartbeats 4000000 in
theorem l6Compose_clash (n : Nat) (ih : CmC n) (ga la gb lb : Int) (a b : Co) (d d' : Nat) (va vb : Value) (fa fb : List Nat) (w : World) (hd : d + d' ≤ n) (_hd1 : d ≤ 9) (_hd2 : d' ≤ 9) (hsa : shpK d a = true) (hsb : shpK d' b = true) (hq : tagC a ≠ tagC b) (hata : (Co.mk 4 ga la [a]).At w va fa) (hatb : (Co.mk 5 gb lb [b]).At w vb fb) :
    Calls Try.prog 34 #[va, vb] w (MadeO w (cmpo (n + 1) (.mk 4 ga la [a]) (.mk 5 gb lb [b]))) := by
  have hr : cmpo (n + 1) (.mk 4 ga la [a]) (.mk 5 gb lb [b]) = some (.mk 6 (tagC a) lb []) := by simp [cmpo, cmpN, hq]
  obtain ⟨sa, rfl, hsl⟩ := Co.at_mk.1 hata
  obtain ⟨ba, oa, ca, k1, g1, l1, n1, a1, c1, f1, rfl, hba, d0, d1, d2, d3, hA, _, hca⟩ := hsl.one
  obtain ⟨sb, rfl, hsr⟩ := Co.at_mk.1 hatb
  obtain ⟨bb, ob, cb, k2, g2, l2, n2, a2, c2, f2, rfl, hbb, e0, e1, e2, e3, hB, _, hcb⟩ := hsr.one
  have hb0 : Below w.heap.size w (((w.alloc (Obj.cells #[.int .i64 4, .int .i64 ga, .int .i64 la, .slice (some ⟨ba, oa, none⟩) 1 ca] 44)).alloc (Obj.cells #[.int .i64 5, .int .i64 gb, .int .i64 lb, .slice (some ⟨bb, ob, none⟩) 1 cb] 44)).alloc (Obj.cells #[.int .i64 0, .int .i64 0, .int .i64 0, .slice none 0 0] 44)) := (((Below.refl _ _).alloc (Nat.le_refl _) _).alloc (by simp) _).alloc (by simp; omega) _
  have hs0 : ((((w.alloc (Obj.cells #[.int .i64 4, .int .i64 ga, .int .i64 la, .slice (some ⟨ba, oa, none⟩) 1 ca] 44)).alloc (Obj.cells #[.int .i64 5, .int .i64 gb, .int .i64 lb, .slice (some ⟨bb, ob, none⟩) 1 cb] 44)).alloc (Obj.cells #[.int .i64 0, .int .i64 0, .int .i64 0, .slice none 0 0] 44))).heap.size = w.heap.size + 1 + 1 + 1 := by simp
  obtain ⟨bA, bB, bZ⟩ := three3 (Below.refl ((((w.alloc (Obj.cells #[.int .i64 4, .int .i64 ga, .int .i64 la, .slice (some ⟨ba, oa, none⟩) 1 ca] 44)).alloc (Obj.cells #[.int .i64 5, .int .i64 gb, .int .i64 lb, .slice (some ⟨bb, ob, none⟩) 1 cb] 44)).alloc (Obj.cells #[.int .i64 0, .int .i64 0, .int .i64 0, .slice none 0 0] 44))).heap.size (((w.alloc (Obj.cells #[.int .i64 4, .int .i64 ga, .int .i64 la, .slice (some ⟨ba, oa, none⟩) 1 ca] 44)).alloc (Obj.cells #[.int .i64 5, .int .i64 gb, .int .i64 lb, .slice (some ⟨bb, ob, none⟩) 1 cb] 44)).alloc (Obj.cells #[.int .i64 0, .int .i64 0, .int .i64 0, .slice none 0 0] 44)))
  have x0 : ((((w.alloc (Obj.cells #[.int .i64 4, .int .i64 ga, .int .i64 la, .slice (some ⟨ba, oa, none⟩) 1 ca] 44)).alloc (Obj.cells #[.int .i64 5, .int .i64 gb, .int .i64 lb, .slice (some ⟨bb, ob, none⟩) 1 cb] 44)).alloc (Obj.cells #[.int .i64 0, .int .i64 0, .int .i64 0, .slice none 0 0] 44))).cell? ⟨w.heap.size, 0, none⟩ = some (.int .i64 4) := by rw [cell_of_block bA]; rfl
  have x1 : ((((w.alloc (Obj.cells #[.int .i64 4, .int .i64 ga, .int .i64 la, .slice (some ⟨ba, oa, none⟩) 1 ca] 44)).alloc (Obj.cells #[.int .i64 5, .int .i64 gb, .int .i64 lb, .slice (some ⟨bb, ob, none⟩) 1 cb] 44)).alloc (Obj.cells #[.int .i64 0, .int .i64 0, .int .i64 0, .slice none 0 0] 44))).cell? ⟨w.heap.size, 1, none⟩ = some (.int .i64 ga) := by rw [cell_of_block bA]; rfl
  have x2 : ((((w.alloc (Obj.cells #[.int .i64 4, .int .i64 ga, .int .i64 la, .slice (some ⟨ba, oa, none⟩) 1 ca] 44)).alloc (Obj.cells #[.int .i64 5, .int .i64 gb, .int .i64 lb, .slice (some ⟨bb, ob, none⟩) 1 cb] 44)).alloc (Obj.cells #[.int .i64 0, .int .i64 0, .int .i64 0, .slice none 0 0] 44))).cell? ⟨w.heap.size, 2, none⟩ = some (.int .i64 la) := by rw [cell_of_block bA]; rfl
  have x3 : ((((w.alloc (Obj.cells #[.int .i64 4, .int .i64 ga, .int .i64 la, .slice (some ⟨ba, oa, none⟩) 1 ca] 44)).alloc (Obj.cells #[.int .i64 5, .int .i64 gb, .int .i64 lb, .slice (some ⟨bb, ob, none⟩) 1 cb] 44)).alloc (Obj.cells #[.int .i64 0, .int .i64 0, .int .i64 0, .slice none 0 0] 44))).cell? ⟨w.heap.size, 3, none⟩ = some (.slice (some ⟨ba, oa, none⟩) 1 ca) := by rw [cell_of_block bA]; rfl
  have y0 : ((((w.alloc (Obj.cells #[.int .i64 4, .int .i64 ga, .int .i64 la, .slice (some ⟨ba, oa, none⟩) 1 ca] 44)).alloc (Obj.cells #[.int .i64 5, .int .i64 gb, .int .i64 lb, .slice (some ⟨bb, ob, none⟩) 1 cb] 44)).alloc (Obj.cells #[.int .i64 0, .int .i64 0, .int .i64 0, .slice none 0 0] 44))).cell? ⟨w.heap.size + 1, 0, none⟩ = some (.int .i64 5) := by rw [cell_of_block bB]; rfl
  have y1 : ((((w.alloc (Obj.cells #[.int .i64 4, .int .i64 ga, .int .i64 la, .slice (some ⟨ba, oa, none⟩) 1 ca] 44)).alloc (Obj.cells #[.int .i64 5, .int .i64 gb, .int .i64 lb, .slice (some ⟨bb, ob, none⟩) 1 cb] 44)).alloc (Obj.cells #[.int .i64 0, .int .i64 0, .int .i64 0, .slice none 0 0] 44))).cell? ⟨w.heap.size + 1, 1, none⟩ = some (.int .i64 gb) := by rw [cell_of_block bB]; rfl
  have y2 : ((((w.alloc (Obj.cells #[.int .i64 4, .int .i64 ga, .int .i64 la, .slice (some ⟨ba, oa, none⟩) 1 ca] 44)).alloc (Obj.cells #[.int .i64 5, .int .i64 gb, .int .i64 lb, .slice (some ⟨bb, ob, none⟩) 1 cb] 44)).alloc (Obj.cells #[.int .i64 0, .int .i64 0, .int .i64 0, .slice none 0 0] 44))).cell? ⟨w.heap.size + 1, 2, none⟩ = some (.int .i64 lb) := by rw [cell_of_block bB]; rfl
  have y3 : ((((w.alloc (Obj.cells #[.int .i64 4, .int .i64 ga, .int .i64 la, .slice (some ⟨ba, oa, none⟩) 1 ca] 44)).alloc (Obj.cells #[.int .i64 5, .int .i64 gb, .int .i64 lb, .slice (some ⟨bb, ob, none⟩) 1 cb] 44)).alloc (Obj.cells #[.int .i64 0, .int .i64 0, .int .i64 0, .slice none 0 0] 44))).cell? ⟨w.heap.size + 1, 3, none⟩ = some (.slice (some ⟨bb, ob, none⟩) 1 cb) := by rw [cell_of_block bB]; rfl
  replace d0 := cell_keep d0 hb0
  replace d1 := cell_keep d1 hb0
  replace d2 := cell_keep d2 hb0
  replace d3 := cell_keep d3 hb0
  replace e0 := cell_keep e0 hb0
  replace e1 := cell_keep e1 hb0
  replace e2 := cell_keep e2 hb0
  replace e3 := cell_keep e3 hb0
  have HM := hid (fun (w' : World) (h : Below ((((w.alloc (Obj.cells #[.int .i64 4, .int .i64 ga, .int .i64 la, .slice (some ⟨ba, oa, none⟩) 1 ca] 44)).alloc (Obj.cells #[.int .i64 5, .int .i64 gb, .int .i64 lb, .slice (some ⟨bb, ob, none⟩) 1 cb] 44)).alloc (Obj.cells #[.int .i64 0, .int .i64 0, .int .i64 0, .slice none 0 0] 44))).heap.size (((w.alloc (Obj.cells #[.int .i64 4, .int .i64 ga, .int .i64 la, .slice (some ⟨ba, oa, none⟩) 1 ca] 44)).alloc (Obj.cells #[.int .i64 5, .int .i64 gb, .int .i64 lb, .slice (some ⟨bb, ob, none⟩) 1 cb] 44)).alloc (Obj.cells #[.int .i64 0, .int .i64 0, .int .i64 0, .slice none 0 0] 44)) w') => (h.block (w.heap.size + 1 + 1) (by omega)).trans bZ)
  have HB := hid hb0
  have HZ0 := hid hs0
  have HS0 := hid (show ∀ w', Below ((((w.alloc (Obj.cells #[.int .i64 4, .int .i64 ga, .int .i64 la, .slice (some ⟨ba, oa, none⟩) 1 ca] 44)).alloc (Obj.cells #[.int .i64 5, .int .i64 gb, .int .i64 lb, .slice (some ⟨bb, ob, none⟩) 1 cb] 44)).alloc (Obj.cells #[.int .i64 0, .int .i64 0, .int .i64 0, .slice none 0 0] 44))).heap.size (((w.alloc (Obj.cells #[.int .i64 4, .int .i64 ga, .int .i64 la, .slice (some ⟨ba, oa, none⟩) 1 ca] 44)).alloc (Obj.cells #[.int .i64 5, .int .i64 gb, .int .i64 lb, .slice (some ⟨bb, ob, none⟩) 1 cb] 44)).alloc (Obj.cells #[.int .i64 0, .int .i64 0, .int .i64 0, .slice none 0 0] 44)) w' → (fun w' => w'.cell? ⟨w.heap.size, 0, none⟩ = some (.int .i64 4) ∧ w'.cell? ⟨w.heap.size, 1, none⟩ = some (.int .i64 ga) ∧ w'.cell? ⟨w.heap.size, 2, none⟩ = some (.int .i64 la) ∧ w'.cell? ⟨w.heap.size, 3, none⟩ = some (.slice (some ⟨ba, oa, none⟩) 1 ca) ∧ w'.cell? ⟨w.heap.size + 1, 0, none⟩ = some (.int .i64 5) ∧ w'.cell? ⟨w.heap.size + 1, 1, none⟩ = some (.int .i64 gb) ∧ w'.cell? ⟨w.heap.size + 1, 2, none⟩ = some (.int .i64 lb) ∧ w'.cell? ⟨w.heap.size + 1, 3, none⟩ = some (.slice (some ⟨bb, ob, none⟩) 1 cb) ∧ w'.cell? ⟨ba, oa, none⟩ = some (.int .i64 k1) ∧ w'.cell? ⟨ba, oa + 1, none⟩ = some (.int .i64 g1) ∧ w'.cell? ⟨ba, oa + 2, none⟩ = some (.int .i64 l1) ∧ w'.cell? ⟨ba, oa + 3, none⟩ = some (.slice a1 n1 c1) ∧ w'.cell? ⟨bb, ob, none⟩ = some (.int .i64 k2) ∧ w'.cell? ⟨bb, ob + 1, none⟩ = some (.int .i64 g2) ∧ w'.cell? ⟨bb, ob + 2, none⟩ = some (.int .i64 l2) ∧ w'.cell? ⟨bb, ob + 3, none⟩ = some (.slice a2 n2 c2)) w' from fun w' h => ⟨cell_keep x0 h, cell_keep x1 h, cell_keep x2 h, cell_keep x3 h, cell_keep y0 h, cell_keep y1 h, cell_keep y2 h, cell_keep y3 h, cell_keep d0 h, cell_keep d1 h, cell_keep d2 h, cell_keep d3 h, cell_keep e0 h, cell_keep e1 h, cell_keep e2 h, cell_keep e3 h⟩)
  have H := hid (And.intro (hA.below hb0) (hB.below hb0))
  have HP := hid (And.intro hd (And.intro hsa hsb))
  have HTA := hid (tagWf_shp hsa)
  have HTB := hid (tagWf_shp hsb)
  have HIH := hid ih
  have HR := hid hr
  have q9 : (tagC a == tagC b) = false := by simpa using hq
  generalize hta : tagC a = ta at *
  generalize htb : tagC b = tb at *
  have HGA := hid hta
  have HGB := hid htb
  clear ih hb0 hs0 bA bB bZ hata hatb hsl hsr hA hB hsa hsb hr hd hq hta htb
  go_enter Try.func34, Try.ntmps34
  go_wp2_with fail
  refine wp_region_held_drew (S := (fun w' => Below ((((w.alloc (Obj.cells #[.int .i64 4, .int .i64 ga, .int .i64 la, .slice (some ⟨ba, oa, none⟩) 1 ca] 44)).alloc (Obj.cells #[.int .i64 5, .int .i64 gb, .int .i64 lb, .slice (some ⟨bb, ob, none⟩) 1 cb] 44)).alloc (Obj.cells #[.int .i64 0, .int .i64 0, .int .i64 0, .slice none 0 0] 44))).heap.size (((w.alloc (Obj.cells #[.int .i64 4, .int .i64 ga, .int .i64 la, .slice (some ⟨ba, oa, none⟩) 1 ca] 44)).alloc (Obj.cells #[.int .i64 5, .int .i64 gb, .int .i64 lb, .slice (some ⟨bb, ob, none⟩) 1 cb] 44)).alloc (Obj.cells #[.int .i64 0, .int .i64 0, .int .i64 0, .slice none 0 0] 44)) w' ∧ w'.cell? ⟨w.heap.size, 0, none⟩ = some (.int .i64 4) ∧ w'.cell? ⟨w.heap.size, 1, none⟩ = some (.int .i64 ga) ∧ w'.cell? ⟨w.heap.size, 2, none⟩ = some (.int .i64 la) ∧ w'.cell? ⟨w.heap.size, 3, none⟩ = some (.slice (some ⟨ba, oa, none⟩) 1 ca) ∧ w'.cell? ⟨w.heap.size + 1, 0, none⟩ = some (.int .i64 5) ∧ w'.cell? ⟨w.heap.size + 1, 1, none⟩ = some (.int .i64 gb) ∧ w'.cell? ⟨w.heap.size + 1, 2, none⟩ = some (.int .i64 lb) ∧ w'.cell? ⟨w.heap.size + 1, 3, none⟩ = some (.slice (some ⟨bb, ob, none⟩) 1 cb) ∧ w'.cell? ⟨ba, oa, none⟩ = some (.int .i64 k1) ∧ w'.cell? ⟨ba, oa + 1, none⟩ = some (.int .i64 g1) ∧ w'.cell? ⟨ba, oa + 2, none⟩ = some (.int .i64 l1) ∧ w'.cell? ⟨ba, oa + 3, none⟩ = some (.slice a1 n1 c1) ∧ w'.cell? ⟨bb, ob, none⟩ = some (.int .i64 k2) ∧ w'.cell? ⟨bb, ob + 1, none⟩ = some (.int .i64 g2) ∧ w'.cell? ⟨bb, ob + 2, none⟩ = some (.int .i64 l2) ∧ w'.cell? ⟨bb, ob + 3, none⟩ = some (.slice a2 n2 c2))) (by kernel_rfl) ?_ (fun hS0 => ?_)
  · (refine (fun hB => ⟨hB, cell_keep x0 hB, cell_keep x1 hB, cell_keep x2 hB, cell_keep x3 hB, cell_keep y0 hB, cell_keep y1 hB, cell_keep y2 hB, cell_keep y3 hB, cell_keep d0 hB, cell_keep d1 hB, cell_keep d2 hB, cell_keep d3 hB, cell_keep e0 hB, cell_keep e1 hB, cell_keep e2 hB, cell_keep e3 hB⟩ : Below ((((w.alloc (Obj.cells #[.int .i64 4, .int .i64 ga, .int .i64 la, .slice (some ⟨ba, oa, none⟩) 1 ca] 44)).alloc (Obj.cells #[.int .i64 5, .int .i64 gb, .int .i64 lb, .slice (some ⟨bb, ob, none⟩) 1 cb] 44)).alloc (Obj.cells #[.int .i64 0, .int .i64 0, .int .i64 0, .slice none 0 0] 44))).heap.size (((w.alloc (Obj.cells #[.int .i64 4, .int .i64 ga, .int .i64 la, .slice (some ⟨ba, oa, none⟩) 1 ca] 44)).alloc (Obj.cells #[.int .i64 5, .int .i64 gb, .int .i64 lb, .slice (some ⟨bb, ob, none⟩) 1 cb] 44)).alloc (Obj.cells #[.int .i64 0, .int .i64 0, .int .i64 0, .slice none 0 0] 44)) _ → _) ?_; exact below_drew _)
  refine regTake (i := 0) (v := ?vg0) rfl (by kernel_rfl) (by kernel_rfl) (by kernel_rfl) (fun _ _ _ h => h) (Or.inl ⟨by rfl, ?hyg0⟩) (by assumption) ?_
  case hyg0 => (intro w hSw; (try dsimp only at hSw); go_simp; (try with_reducible rfl))
  try simp only [Act.put, List.setIfInBounds_toArray, List.set_cons_zero, List.set_cons_succ]
  refine regTake (i := 1) (v := ?vg1) rfl (by kernel_rfl) (by kernel_rfl) (by kernel_rfl) (fun _ _ _ h => h) (Or.inl ⟨by rfl, ?hyg1⟩) (by assumption) ?_
  case hyg1 => (intro w hSw; (try dsimp only at hSw); go_simp; (try with_reducible rfl))
  try simp only [Act.put, List.setIfInBounds_toArray, List.set_cons_zero, List.set_cons_succ]
  refine regTake (i := 2) (v := ?vg2) rfl (by kernel_rfl) (by kernel_rfl) (by kernel_rfl) (fun _ _ _ h => h) (Or.inl ⟨by rfl, ?hyg2⟩) (by assumption) ?_
  case hyg2 => (intro w hSw; (try dsimp only at hSw); go_simp; (try with_reducible rfl))
  try simp only [Act.put, List.setIfInBounds_toArray, List.set_cons_zero, List.set_cons_succ]
  refine regTake (i := 3) (v := ?vg3) rfl (by kernel_rfl) (by kernel_rfl) (by kernel_rfl) (fun _ _ _ h => h) (Or.inl ⟨by rfl, ?hyg3⟩) (by assumption) ?_
  case hyg3 => (intro w hSw; (try dsimp only at hSw); go_simp; (try with_reducible rfl))
  try simp only [Act.put, List.setIfInBounds_toArray, List.set_cons_zero, List.set_cons_succ]
  refine regTake (i := 5) (v := ?vg5) rfl (by kernel_rfl) (by kernel_rfl) (by kernel_rfl) (fun _ _ _ h => h) (Or.inl ⟨by rfl, ?hyg5⟩) (by assumption) ?_
  case hyg5 => (intro w hSw; (try dsimp only at hSw); go_simp; (try with_reducible rfl))
  try simp only [Act.put, List.setIfInBounds_toArray, List.set_cons_zero, List.set_cons_succ]
  refine regTake (i := 6) (v := ?vg6) rfl (by kernel_rfl) (by kernel_rfl) (by kernel_rfl) (fun _ _ _ h => h) (Or.inl ⟨by rfl, ?hyg6⟩) (by assumption) ?_
  case hyg6 => (intro w hSw; (try dsimp only at hSw); go_simp; (try with_reducible rfl))
  try simp only [Act.put, List.setIfInBounds_toArray, List.set_cons_zero, List.set_cons_succ]
  refine regTake (i := 7) (v := ?vg7) rfl (by kernel_rfl) (by kernel_rfl) (by kernel_rfl) (fun _ _ _ h => h) (Or.inl ⟨by rfl, ?hyg7⟩) (by assumption) ?_
  case hyg7 => (intro w hSw; (try dsimp only at hSw); go_simp; (try with_reducible rfl))
  try simp only [Act.put, List.setIfInBounds_toArray, List.set_cons_zero, List.set_cons_succ]
  refine regTake (i := 8) (v := ?vg8) rfl (by kernel_rfl) (by kernel_rfl) (by kernel_rfl) (fun _ _ _ h => h) (Or.inl ⟨by rfl, ?hyg8⟩) (by assumption) ?_
  case hyg8 => (intro w hSw; (try dsimp only at hSw); go_simp; (try with_reducible rfl))
  try simp only [Act.put, List.setIfInBounds_toArray, List.set_cons_zero, List.set_cons_succ]
  refine wpAnyH_ready (rs := [4]) (by kernel_rfl) (by simp) ?_
  refine regCons rfl (fun K hK => ?_)
  go_simp
  refine (tag_any d _ _ _ _ HTA.out (H.out.1.below (below_drew ((((w.alloc (Obj.cells #[.int .i64 4, .int .i64 ga, .int .i64 la, .slice (some ⟨ba, oa, none⟩) 1 ca] 44)).alloc (Obj.cells #[.int .i64 5, .int .i64 gb, .int .i64 lb, .slice (some ⟨bb, ob, none⟩) 1 cb] 44)).alloc (Obj.cells #[.int .i64 0, .int .i64 0, .int .i64 0, .slice none 0 0] 44)))))).mono ?_
  rw [HGA.out]
  rintro e w1 ⟨rfl, hy0⟩
  have hk0 := below_trans (below_drew ((((w.alloc (Obj.cells #[.int .i64 4, .int .i64 ga, .int .i64 la, .slice (some ⟨ba, oa, none⟩) 1 ca] 44)).alloc (Obj.cells #[.int .i64 5, .int .i64 gb, .int .i64 lb, .slice (some ⟨bb, ob, none⟩) 1 cb] 44)).alloc (Obj.cells #[.int .i64 0, .int .i64 0, .int .i64 0, .slice none 0 0] 44)))) hy0
  refine hK.out _ _ ?_ (fun hS1 => ?_)
  · (refine (fun hB => ⟨hB, cell_keep x0 hB, cell_keep x1 hB, cell_keep x2 hB, cell_keep x3 hB, cell_keep y0 hB, cell_keep y1 hB, cell_keep y2 hB, cell_keep y3 hB, cell_keep d0 hB, cell_keep d1 hB, cell_keep d2 hB, cell_keep d3 hB, cell_keep e0 hB, cell_keep e1 hB, cell_keep e2 hB, cell_keep e3 hB⟩ : Below ((((w.alloc (Obj.cells #[.int .i64 4, .int .i64 ga, .int .i64 la, .slice (some ⟨ba, oa, none⟩) 1 ca] 44)).alloc (Obj.cells #[.int .i64 5, .int .i64 gb, .int .i64 lb, .slice (some ⟨bb, ob, none⟩) 1 cb] 44)).alloc (Obj.cells #[.int .i64 0, .int .i64 0, .int .i64 0, .slice none 0 0] 44))).heap.size (((w.alloc (Obj.cells #[.int .i64 4, .int .i64 ga, .int .i64 la, .slice (some ⟨ba, oa, none⟩) 1 ca] 44)).alloc (Obj.cells #[.int .i64 5, .int .i64 gb, .int .i64 lb, .slice (some ⟨bb, ob, none⟩) 1 cb] 44)).alloc (Obj.cells #[.int .i64 0, .int .i64 0, .int .i64 0, .slice none 0 0] 44)) _ → _) ?_; exact hk0)
  clear hK K hS0
  try simp only [Act.put, List.setIfInBounds_toArray, List.set_cons_zero, List.set_cons_succ]
  refine wpAnyH_ready (rs := [9]) (by kernel_rfl) (by simp) ?_
  refine regCons rfl (fun K hK => ?_)
  go_simp
  refine (tag_any d' _ _ _ _ HTB.out (H.out.2.below hk0)).mono ?_
  rw [HGB.out]
  rintro e w2 ⟨rfl, hy1⟩
  have hk1 := below_trans hk0 hy1
  refine hK.out _ _ ?_ (fun hS2 => ?_)
  · (refine (fun hB => ⟨hB, cell_keep x0 hB, cell_keep x1 hB, cell_keep x2 hB, cell_keep x3 hB, cell_keep y0 hB, cell_keep y1 hB, cell_keep y2 hB, cell_keep y3 hB, cell_keep d0 hB, cell_keep d1 hB, cell_keep d2 hB, cell_keep d3 hB, cell_keep e0 hB, cell_keep e1 hB, cell_keep e2 hB, cell_keep e3 hB⟩ : Below ((((w.alloc (Obj.cells #[.int .i64 4, .int .i64 ga, .int .i64 la, .slice (some ⟨ba, oa, none⟩) 1 ca] 44)).alloc (Obj.cells #[.int .i64 5, .int .i64 gb, .int .i64 lb, .slice (some ⟨bb, ob, none⟩) 1 cb] 44)).alloc (Obj.cells #[.int .i64 0, .int .i64 0, .int .i64 0, .slice none 0 0] 44))).heap.size (((w.alloc (Obj.cells #[.int .i64 4, .int .i64 ga, .int .i64 la, .slice (some ⟨ba, oa, none⟩) 1 ca] 44)).alloc (Obj.cells #[.int .i64 5, .int .i64 gb, .int .i64 lb, .slice (some ⟨bb, ob, none⟩) 1 cb] 44)).alloc (Obj.cells #[.int .i64 0, .int .i64 0, .int .i64 0, .slice none 0 0] 44)) _ → _) ?_; exact hk1)
  clear hK K hS1
  try simp only [Act.put, List.setIfInBounds_toArray, List.set_cons_zero, List.set_cons_succ]
  refine regTake (i := 10) (v := ?vg10) rfl (by kernel_rfl) (by kernel_rfl) (by kernel_rfl) (fun _ _ _ h => h) (Or.inl ⟨by rfl, ?hyg10⟩) (by assumption) ?_
  case hyg10 => (intro w hSw; (try dsimp only at hSw); go_simp; (try with_reducible rfl))
  try simp only [Act.put, List.setIfInBounds_toArray, List.set_cons_zero, List.set_cons_succ]
  refine wpAnyH_done (by kernel_rfl) ?_ _
  clear hS2 hy0 hy1 hk0
  have HK := hid hk1
  have hSS := HS0.out _ hk1
  clear hk1 x0 x1 x2 x3 y0 y1 y2 y3 d0 d1 d2 d3 e0 e1 e2 e3
  obtain ⟨x0, x1, x2, x3, y0, y1, y2, y3, d0, d1, d2, d3, e0, e1, e2, e3⟩ := hSS
  go_wp2_with fail
  refine regionL (s := 8) (S0 := (fun w' => w'.cell? ⟨w.heap.size, 0, none⟩ = some (.int .i64 4) ∧ w'.cell? ⟨w.heap.size, 1, none⟩ = some (.int .i64 ga) ∧ w'.cell? ⟨w.heap.size, 2, none⟩ = some (.int .i64 la) ∧ w'.cell? ⟨w.heap.size, 3, none⟩ = some (.slice (some ⟨ba, oa, none⟩) 1 ca) ∧ w'.cell? ⟨w.heap.size + 1, 0, none⟩ = some (.int .i64 5) ∧ w'.cell? ⟨w.heap.size + 1, 1, none⟩ = some (.int .i64 gb) ∧ w'.cell? ⟨w.heap.size + 1, 2, none⟩ = some (.int .i64 lb) ∧ w'.cell? ⟨w.heap.size + 1, 3, none⟩ = some (.slice (some ⟨bb, ob, none⟩) 1 cb) ∧ w'.cell? ⟨ba, oa, none⟩ = some (.int .i64 k1) ∧ w'.cell? ⟨ba, oa + 1, none⟩ = some (.int .i64 g1) ∧ w'.cell? ⟨ba, oa + 2, none⟩ = some (.int .i64 l1) ∧ w'.cell? ⟨ba, oa + 3, none⟩ = some (.slice a1 n1 c1) ∧ w'.cell? ⟨bb, ob, none⟩ = some (.int .i64 k2) ∧ w'.cell? ⟨bb, ob + 1, none⟩ = some (.int .i64 g2) ∧ w'.cell? ⟨bb, ob + 2, none⟩ = some (.int .i64 l2) ∧ w'.cell? ⟨bb, ob + 3, none⟩ = some (.slice a2 n2 c2))) (S1 := (fun _ => True)) (by kernel_rfl) (HS0.out _ (below_trans HK.out (below_drew _))) (trivial) (fun hS0 => ?_)
  refine takeL0 (i := 0) (v := ?vq1) rfl rfl (by kernel_rfl) (by kernel_rfl) (by kernel_rfl) (by decide) (by kernel_rfl) (by kernel_rfl) (fun _ _ _ h => h) (Or.inl ⟨by rfl, ?hyq1⟩) (by assumption) ?_
  case hyq1 => (intro w hSw; (try dsimp only at hSw); go_simp; (try with_reducible rfl))
  try simp only [Act.put, List.setIfInBounds_toArray, List.set_cons_zero, List.set_cons_succ]
  refine takeL0 (i := 1) (v := ?vq2) rfl rfl (by kernel_rfl) (by kernel_rfl) (by kernel_rfl) (by decide) (by kernel_rfl) (by kernel_rfl) (fun _ _ _ h => h) (Or.inl ⟨by rfl, ?hyq2⟩) (by assumption) ?_
  case hyq2 => (intro w hSw; (try dsimp only at hSw); go_simp; (try with_reducible rfl))
  try simp only [Act.put, List.setIfInBounds_toArray, List.set_cons_zero, List.set_cons_succ]
  refine takeL0 (i := 2) (v := ?vq3) rfl rfl (by kernel_rfl) (by kernel_rfl) (by kernel_rfl) (by decide) (by kernel_rfl) (by kernel_rfl) (fun _ _ _ h => h) (Or.inl ⟨by rfl, ?hyq3⟩) (by assumption) ?_
  case hyq3 => (intro w hSw; (try dsimp only at hSw); go_simp; (try with_reducible rfl))
  try simp only [Act.put, List.setIfInBounds_toArray, List.set_cons_zero, List.set_cons_succ]
  refine takeL0 (i := 3) (v := ?vq4) rfl rfl (by kernel_rfl) (by kernel_rfl) (by kernel_rfl) (by decide) (by kernel_rfl) (by kernel_rfl) (fun _ _ _ h => h) (Or.inl ⟨by rfl, ?hyq4⟩) (by assumption) ?_
  case hyq4 => (intro w hSw; (try dsimp only at hSw); go_simp; (try with_reducible rfl))
  try simp only [Act.put, List.setIfInBounds_toArray, List.set_cons_zero, List.set_cons_succ]
  refine takeL0 (i := 5) (v := ?vq5) rfl rfl (by kernel_rfl) (by kernel_rfl) (by kernel_rfl) (by decide) (by kernel_rfl) (by kernel_rfl) (fun _ _ _ h => h) (Or.inl ⟨by rfl, ?hyq5⟩) (by assumption) ?_
  case hyq5 => (intro w hSw; (try dsimp only at hSw); go_simp; (try with_reducible rfl))
  try simp only [Act.put, List.setIfInBounds_toArray, List.set_cons_zero, List.set_cons_succ]
  refine takeL0 (i := 6) (v := ?vq6) rfl rfl (by kernel_rfl) (by kernel_rfl) (by kernel_rfl) (by decide) (by kernel_rfl) (by kernel_rfl) (fun _ _ _ h => h) (Or.inl ⟨by rfl, ?hyq6⟩) (by assumption) ?_
  case hyq6 => (intro w hSw; (try dsimp only at hSw); go_simp; (try with_reducible rfl))
  try simp only [Act.put, List.setIfInBounds_toArray, List.set_cons_zero, List.set_cons_succ]
  refine readyL (rs := [4]) (by kernel_rfl) (by simp) ?_
  refine AllReadyL.cons rfl (fun K hK => ?_) AllReadyL.nil
  go_simp
  refine (tag_any d _ _ _ _ HTA.out (H.out.1.below (below_trans HK.out (below_drew _)))).mono ?_
  rw [HGA.out]
  rintro e w3 ⟨rfl, hb3⟩
  have hB3 := below_trans (below_trans HK.out (below_drew _)) hb3
  refine hK.out _ _ ?_ (fun hS1 => ?_)
  · exact ⟨trivial, fun _ => HS0.out _ hB3⟩
  clear hK K hS0
  try simp only [Act.put, List.setIfInBounds_toArray, List.set_cons_zero, List.set_cons_succ]
  refine readyL (rs := [7]) (by kernel_rfl) (by simp) ?_
  refine AllReadyL.cons rfl (fun K hK => ?_) AllReadyL.nil
  go_simp
  refine hK.out _ _ ?_ (fun hS2 => ?_)
  · exact ⟨trivial, fun _ => HS0.out _ hB3⟩
  clear hK K hS1
  try simp only [Act.put, List.setIfInBounds_toArray, List.set_cons_zero, List.set_cons_succ]
  refine readyL (rs := [8]) (by kernel_rfl) (by simp) ?_
  refine AllReadyL.cons rfl (fun K hK => ?_) AllReadyL.nil
  have bM := HM.out _ hB3
  have z0 := (cell_of_block (o := 0) bM).trans (show _ = some (.int .i64 0) from rfl)
  have z1 := (cell_of_block (o := 1) bM).trans (show _ = some (.int .i64 0) from rfl)
  have z2 := (cell_of_block (o := 2) bM).trans (show _ = some (.int .i64 0) from rfl)
  have z3 := (cell_of_block (o := 3) bM).trans (show _ = some (.slice none 0 0) from rfl)
  have yz := fun o => frozen_of_block (o := o) bM
  go_simp
  refine hK.out _ _ ?_ (fun hS3 => ?_)
  · exact ⟨trivial, fun h => absurd (h.symm.trans (show _ = true by kernel_rfl)) (by decide)⟩
  clear hK K hS2
  try simp only [Act.put, List.setIfInBounds_toArray, List.set_cons_zero, List.set_cons_succ]
  refine readyL (rs := [9]) (by kernel_rfl) (by simp) ?_
  refine AllReadyL.cons rfl (fun K hK => ?_) AllReadyL.nil
  go_simp
  refine hK.out _ _ ?_ (fun hS4 => ?_)
  · exact ⟨trivial, fun h => absurd (h.symm.trans (show _ = true by kernel_rfl)) (by decide)⟩
  clear hK K hS3
  try simp only [Act.put, List.setIfInBounds_toArray, List.set_cons_zero, List.set_cons_succ]
  refine doneL (by kernel_rfl) ?_ _
  have FIN := closeO (w := w) (wF := w3) (M := w.heap.size + 1 + 1) (lo := w.heap.size + 1 + 1 + 1) (o := some (Co.mk 6 ta lb [])) (b := true) rfl (fun c hc => by cases hc; exact ⟨[], Co.at_mk.2 ⟨.slice none 0 0, rfl, CSl.nilA⟩, Fresh.nil _ _⟩) (by omega) (by omega) (below_trans HB.out hB3)
  rw [← HR.out] at FIN
  simp only [put4, Nat.zero_add] at FIN
  go_wp2_with fail
  exact bodyPost_ret (v := .tuple #[.agg #[.int .i64 6, .int .i64 ta, .int .i64 lb, .slice none 0 0], .bool true]) (by simp [results, Try.results34, go_sem, z0, z1, z2, z3]) rfl FIN

end Go.Proofs.Ytgekfnodmgkdaaa
