/- The program's relations of chapter 8: polarity.holds. -/
import Derived.Test.YtelbpgdlcnnabaaBl0
import Derived.Test.YtelbpgdlcnnabaaReg
namespace Go.Proofs.Ytelbpgdlcnnabaa
open Go.RowKit

set_option maxHeartbeats 400000 in
theorem eith_any (t u : Ty) (v1 v2 : Value) (f1 f2 : List Nat) (w : World) (h1 : t.At w v1 f1) (h2 : u.At w v2 f2) :
    Calls Try.prog 76 #[v1, v2] w (fun e w' => e = .returned (.bool ((kindT t == 1) || (kindT u == 1))) ∧ Below w.heap.size w w') := by
  obtain ⟨k, ts, rfl⟩ := t.shape
  obtain ⟨k', us, rfl⟩ := u.shape
  obtain ⟨s1, rfl, hs1⟩ := Ty.at_mk.1 h1
  obtain ⟨s2, rfl, hs2⟩ := Ty.at_mk.1 h2
  obtain ⟨a, cap, rfl⟩ := hs1.shape
  obtain ⟨a2, cap2, rfl⟩ := hs2.shape
  have hal : Below w.heap.size w ((w.alloc (Obj.cells #[.int .i64 k, .slice a ts.length cap] 25)).alloc (Obj.cells #[.int .i64 k', .slice a2 us.length cap2] 25)) := ((Below.refl _ _).alloc (Nat.le_refl _) _).alloc (by simp) _
  have HAL := hid hal
  have HT := hid (show ((kindT (.mk k ts) == 1) || (kindT (.mk k' us) == 1)) = ((k == 1) || (k' == 1)) from rfl)
  clear hal h1 h2 hs1 hs2
  by_cases hk : k = 1
  · subst hk
    go_enter Try.func76, Try.ntmps76
    go_wp2_with fail
    go_ret
    exact ⟨ret_b (by rw [HT.out]; rfl), HAL.out⟩
  · have hk1 : (k == 1) = false := by simpa using hk
    clear hk
    go_enter Try.func76, Try.ntmps76
    go_wp2_with fail
    go_ret
    exact ⟨ret_b (by rw [HT.out, hk1, Bool.false_or]), HAL.out⟩

/-- The three relations. -/
def pol (p : Int) : Prop := p = -1 ∨ p = 0 ∨ p = 1
theorem pol_neg {p : Int} (h : pol p) : pol (-p) := by unfold pol at *; omega

theorem flip_any (p : Int) (hp : pol p) (w : World) : Calls Try.prog 119 #[.int .i64 p] w fun e w' => e = .returned (.int .i64 (-p)) ∧ w' = w := by
  rcases hp with rfl | rfl | rfl <;>
  · go_enter Try.func119, Try.ntmps119
    go_wp2_with fail
    go_ret
    exact ⟨rfl, rfl⟩

def HoC (d : Nat) : Prop := ∀ (p : Int) (a b : Ty) (v1 v2 : Value) (f1 f2 : List Nat) (w : World), pol p → shp d a = true → shp d b = true → a.At w v1 f1 → b.At w v2 f2 →
  Calls Try.prog 114 #[.int .i64 p, v1, v2] w (fun e w' => e = .returned (.bool (sub d p a b)) ∧ Below w.heap.size w w')

set_option maxRecDepth 100000 in
set_option maxHeartbeats 2000000 in
theorem hol_leaf (p : Int) (k : Int) (hk : k = 2 ∨ k = 3) (v1 v2 : Value) (f1 f2 : List Nat) (w : World) (h1 : (Ty.mk k []).At w v1 f1) (h2 : (Ty.mk k []).At w v2 f2) :
    Calls Try.prog 114 #[.int .i64 p, v1, v2] w (fun e w' => e = .returned (.bool (true)) ∧ Below w.heap.size w w') := by
  have h1' := h1
  have h2' := h2
  obtain ⟨s1, rfl, hs1⟩ := Ty.at_mk.1 h1
  obtain ⟨s2, rfl, hs2⟩ := Ty.at_mk.1 h2
  obtain ⟨a1, c1, rfl⟩ := hs1.none8
  obtain ⟨a2, c2, rfl⟩ := hs2.none8
  clear h1 h2 hs1 hs2
  rcases hk with rfl | rfl
  · have hb0 : Below w.heap.size w ((w.alloc (Obj.cells #[.int .i64 2, .slice a1 0 c1] 25)).alloc (Obj.cells #[.int .i64 2, .slice a2 0 c2] 25)) := ((Below.refl _ _).alloc (Nat.le_refl _) _).alloc (by simp) _
    go_enter Try.func114, Try.ntmps114
    go_wp2_with fail
    refine (eith_any _ _ _ _ _ _ _ (h1'.below hb0) (h2'.below hb0)).mono ?_
    rintro e w1 ⟨he, hb1⟩
    obtain rfl : e = .returned (.bool false) := he
    obtain ⟨x0, x1, x2, x3⟩ := box_cells2 hb1
    have hb01 := below_trans hb0 hb1
    go_wp2_with fail
    go_ret
    exact ⟨rfl, hb01⟩
  · have hb0 : Below w.heap.size w ((w.alloc (Obj.cells #[.int .i64 3, .slice a1 0 c1] 25)).alloc (Obj.cells #[.int .i64 3, .slice a2 0 c2] 25)) := ((Below.refl _ _).alloc (Nat.le_refl _) _).alloc (by simp) _
    go_enter Try.func114, Try.ntmps114
    go_wp2_with fail
    refine (eith_any _ _ _ _ _ _ _ (h1'.below hb0) (h2'.below hb0)).mono ?_
    rintro e w1 ⟨he, hb1⟩
    obtain rfl : e = .returned (.bool false) := he
    obtain ⟨x0, x1, x2, x3⟩ := box_cells2 hb1
    have hb01 := below_trans hb0 hb1
    go_wp2_with fail
    go_ret
    exact ⟨rfl, hb01⟩

set_option maxRecDepth 100000 in
set_option maxHeartbeats 4000000 in
theorem hol_two4 (d : Nat) (ih : HoC d) (p : Int) (hp : pol p) (x y x' y' : Ty) (v1 v2 : Value) (f1 f2 : List Nat) (w : World) (hx : shp d x = true) (hy : shp d y = true) (hx' : shp d x' = true) (hy' : shp d y' = true) (h1 : (Ty.mk 4 [x, y]).At w v1 f1) (h2 : (Ty.mk 4 [x', y']).At w v2 f2) :
    Calls Try.prog 114 #[.int .i64 p, v1, v2] w (fun e w' => e = .returned (.bool (sub d (-p) x' x && sub d p y y')) ∧ Below w.heap.size w w') := by
  have h1' := h1
  have h2' := h2
  obtain ⟨s1, rfl, hs1⟩ := Ty.at_mk.1 h1
  obtain ⟨s2, rfl, hs2⟩ := Ty.at_mk.1 h2
  obtain ⟨bf, of, cf, k1, n1, a1, c1, k2, n2, a2, c2, g1, g2, rfl, hbf, d0, d1, d2, d3, hX1, hX2, _, hcf⟩ := hs1.two
  obtain ⟨bt, ot, ct, k3, n3, a3, c3, k4, n4, a4, c4, g3, g4, rfl, hbt, e0, e1, e2, e3, hY1, hY2, _, hct⟩ := hs2.two
  have hb0 : Below w.heap.size w ((w.alloc (Obj.cells #[.int .i64 4, .slice (some ⟨bf, of, none⟩) 2 cf] 25)).alloc (Obj.cells #[.int .i64 4, .slice (some ⟨bt, ot, none⟩) 2 ct] 25)) := ((Below.refl _ _).alloc (Nat.le_refl _) _).alloc (by simp) _
  have H0 := hid (And.intro hX1 (And.intro hX2 (And.intro hY1 hY2)))
  have HP := hid (And.intro hx (And.intro hy (And.intro hx' hy')))
  have HPP := hid (And.intro hp (pol_neg hp))
  have HIH := hid ih
  have HFL := hid (fun w => flip_any p hp w)
  clear ih h1 h2 hs1 hs2 hX1 hX2 hY1 hY2 hx hy hx' hy' hp
  generalize hA : sub d (-p) x' x = A at *
  generalize hB : sub d p y y' = B at *
  have HA := hid hA
  have HB := hid hB
  clear hA hB
  cases A
  · go_enter Try.func114, Try.ntmps114
    go_wp2_with fail
    refine (eith_any _ _ _ _ _ _ _ (h1'.below hb0) (h2'.below hb0)).mono ?_
    rintro e w1 ⟨he, hb1⟩
    obtain rfl : e = .returned (.bool false) := he
    obtain ⟨x0, x1, x2, x3⟩ := box_cells2 hb1
    have hb01 := below_trans hb0 hb1
    replace d0 := cell_keep d0 hb01
    replace d1 := cell_keep d1 hb01
    replace d2 := cell_keep d2 hb01
    replace d3 := cell_keep d3 hb01
    replace e0 := cell_keep e0 hb01
    replace e1 := cell_keep e1 hb01
    replace e2 := cell_keep e2 hb01
    replace e3 := cell_keep e3 hb01
    have H := hid (And.intro (H0.out.1.below hb01) (And.intro (H0.out.2.1.below hb01) (And.intro (H0.out.2.2.1.below hb01) (H0.out.2.2.2.below hb01))))
    clear h1' h2' hb0 hb1
    go_wp2_with fail
    refine wp_region_held_drew (S := (fun w' => Below (w1).heap.size w1 w' ∧ w'.cell? ⟨w.heap.size, 0, none⟩ = some (.int .i64 4) ∧ w'.cell? ⟨w.heap.size, 1, none⟩ = some (.slice (some ⟨bf, of, none⟩) 2 cf) ∧ w'.cell? ⟨w.heap.size + 1, 0, none⟩ = some (.int .i64 4) ∧ w'.cell? ⟨w.heap.size + 1, 1, none⟩ = some (.slice (some ⟨bt, ot, none⟩) 2 ct) ∧ w'.cell? ⟨bf, of, none⟩ = some (.int .i64 k1) ∧ w'.cell? ⟨bf, of + 1, none⟩ = some (.slice a1 n1 c1) ∧ w'.cell? ⟨bf, of + 2, none⟩ = some (.int .i64 k2) ∧ w'.cell? ⟨bf, of + 2 + 1, none⟩ = some (.slice a2 n2 c2) ∧ w'.cell? ⟨bt, ot, none⟩ = some (.int .i64 k3) ∧ w'.cell? ⟨bt, ot + 1, none⟩ = some (.slice a3 n3 c3) ∧ w'.cell? ⟨bt, ot + 2, none⟩ = some (.int .i64 k4) ∧ w'.cell? ⟨bt, ot + 2 + 1, none⟩ = some (.slice a4 n4 c4))) (by kernel_rfl) ?_ (fun hS0 => ?_)
    · (refine (fun hB => ⟨hB, cell_keep x0 hB, cell_keep x1 hB, cell_keep x2 hB, cell_keep x3 hB, cell_keep d0 hB, cell_keep d1 hB, cell_keep d2 hB, cell_keep d3 hB, cell_keep e0 hB, cell_keep e1 hB, cell_keep e2 hB, cell_keep e3 hB⟩ : Below (w1).heap.size w1 _ → _) ?_; exact below_drew _)
    refine regTake (i := 0) (v := ?vn21_0) rfl (by kernel_rfl) (by kernel_rfl) (by kernel_rfl) (fun _ _ _ h => h) (Or.inl ⟨by rfl, ?hyn21_0⟩) (by assumption) ?_
    case hyn21_0 => (intro w hSw; (try dsimp only at hSw); go_simp; (try with_reducible rfl))
    try simp only [Act.put, List.setIfInBounds_toArray, List.set_cons_zero, List.set_cons_succ]
    refine regTake (i := 2) (v := ?vn21_2) rfl (by kernel_rfl) (by kernel_rfl) (by kernel_rfl) (fun _ _ _ h => h) (Or.inl ⟨by rfl, ?hyn21_2⟩) (by assumption) ?_
    case hyn21_2 => (intro w hSw; (try dsimp only at hSw); go_simp; (try with_reducible rfl))
    try simp only [Act.put, List.setIfInBounds_toArray, List.set_cons_zero, List.set_cons_succ]
    refine regTake (i := 3) (v := ?vn21_3) rfl (by kernel_rfl) (by kernel_rfl) (by kernel_rfl) (fun _ _ _ h => h) (Or.inl ⟨by rfl, ?hyn21_3⟩) (by assumption) ?_
    case hyn21_3 => (intro w hSw; (try dsimp only at hSw); go_simp; (try with_reducible rfl))
    try simp only [Act.put, List.setIfInBounds_toArray, List.set_cons_zero, List.set_cons_succ]
    refine regTake (i := 4) (v := ?vn21_4) rfl (by kernel_rfl) (by kernel_rfl) (by kernel_rfl) (fun _ _ _ h => h) (Or.inl ⟨by rfl, ?hyn21_4⟩) (by assumption) ?_
    case hyn21_4 => (intro w hSw; (try dsimp only at hSw); go_simp; (try with_reducible rfl))
    try simp only [Act.put, List.setIfInBounds_toArray, List.set_cons_zero, List.set_cons_succ]
    refine regTake (i := 5) (v := ?vn21_5) rfl (by kernel_rfl) (by kernel_rfl) (by kernel_rfl) (fun _ _ _ h => h) (Or.inl ⟨by rfl, ?hyn21_5⟩) (by assumption) ?_
    case hyn21_5 => (intro w hSw; (try dsimp only at hSw); go_simp; (try with_reducible rfl))
    try simp only [Act.put, List.setIfInBounds_toArray, List.set_cons_zero, List.set_cons_succ]
    refine regTake (i := 6) (v := ?vn21_6) rfl (by kernel_rfl) (by kernel_rfl) (by kernel_rfl) (fun _ _ _ h => h) (Or.inl ⟨by rfl, ?hyn21_6⟩) (by assumption) ?_
    case hyn21_6 => (intro w hSw; (try dsimp only at hSw); go_simp; (try with_reducible rfl))
    try simp only [Act.put, List.setIfInBounds_toArray, List.set_cons_zero, List.set_cons_succ]
    refine regTake (i := 7) (v := ?vn21_7) rfl (by kernel_rfl) (by kernel_rfl) (by kernel_rfl) (fun _ _ _ h => h) (Or.inl ⟨by rfl, ?hyn21_7⟩) (by assumption) ?_
    case hyn21_7 => (intro w hSw; (try dsimp only at hSw); go_simp; (try with_reducible rfl))
    try simp only [Act.put, List.setIfInBounds_toArray, List.set_cons_zero, List.set_cons_succ]
    refine regTake (i := 8) (v := ?vn21_8) rfl (by kernel_rfl) (by kernel_rfl) (by kernel_rfl) (fun _ _ _ h => h) (Or.inl ⟨by rfl, ?hyn21_8⟩) (by assumption) ?_
    case hyn21_8 => (intro w hSw; (try dsimp only at hSw); go_simp; (try with_reducible rfl))
    try simp only [Act.put, List.setIfInBounds_toArray, List.set_cons_zero, List.set_cons_succ]
    refine regTake (i := 9) (v := ?vn21_9) rfl (by kernel_rfl) (by kernel_rfl) (by kernel_rfl) (fun _ _ _ h => h) (Or.inl ⟨by rfl, ?hyn21_9⟩) (by assumption) ?_
    case hyn21_9 => (intro w hSw; (try dsimp only at hSw); go_simp; (try with_reducible rfl))
    try simp only [Act.put, List.setIfInBounds_toArray, List.set_cons_zero, List.set_cons_succ]
    refine wpAnyH_ready (rs := [1]) (by kernel_rfl) (by simp) ?_
    refine regCons rfl (fun K hK => ?_)
    go_simp
    refine (HFL.out _).mono ?_
    rintro e w2 ⟨rfl, rfl⟩
    have hk0 := below_drew w1
    refine hK.out _ _ ?_ (fun hS1 => ?_)
    · (refine (fun hB => ⟨hB, cell_keep x0 hB, cell_keep x1 hB, cell_keep x2 hB, cell_keep x3 hB, cell_keep d0 hB, cell_keep d1 hB, cell_keep d2 hB, cell_keep d3 hB, cell_keep e0 hB, cell_keep e1 hB, cell_keep e2 hB, cell_keep e3 hB⟩ : Below (w1).heap.size w1 _ → _) ?_; exact hk0)
    clear hK K hS0
    try simp only [Act.put, List.setIfInBounds_toArray, List.set_cons_zero, List.set_cons_succ]
    refine wpAnyH_ready (rs := [10]) (by kernel_rfl) (by simp) ?_
    refine regCons rfl (fun K hK => ?_)
    go_simp
    refine (HIH.out (-p) x' x _ _ _ _ _ HPP.out.2 HP.out.2.2.1 HP.out.1 (H.out.2.2.1.below (below_drew _)) (H.out.1.below (below_drew _))).mono ?_
    rw [HA.out]
    rintro e w2 ⟨rfl, hb2⟩
    have hk1 := below_trans (below_drew w1) hb2
    refine hK.out _ _ ?_ (fun hS2 => ?_)
    · (refine (fun hB => ⟨hB, cell_keep x0 hB, cell_keep x1 hB, cell_keep x2 hB, cell_keep x3 hB, cell_keep d0 hB, cell_keep d1 hB, cell_keep d2 hB, cell_keep d3 hB, cell_keep e0 hB, cell_keep e1 hB, cell_keep e2 hB, cell_keep e3 hB⟩ : Below (w1).heap.size w1 _ → _) ?_; exact hk1)
    clear hK K hS1
    try simp only [Act.put, List.setIfInBounds_toArray, List.set_cons_zero, List.set_cons_succ]
    refine regTake (i := 11) (v := ?vn21_11) rfl (by kernel_rfl) (by kernel_rfl) (by kernel_rfl) (fun _ _ _ h => h) (Or.inl ⟨by rfl, ?hyn21_11⟩) (by assumption) ?_
    case hyn21_11 => (intro w hSw; (try dsimp only at hSw); go_simp; (try with_reducible rfl))
    try simp only [Act.put, List.setIfInBounds_toArray, List.set_cons_zero, List.set_cons_succ]
    refine regTake (i := 12) (v := undef) rfl (by kernel_rfl) (by kernel_rfl) (by kernel_rfl) (fun _ _ _ h => h) (Or.inr ⟨by rfl, rfl⟩) (by assumption) ?_
    try simp only [Act.put, List.setIfInBounds_toArray, List.set_cons_zero, List.set_cons_succ]
    refine regTake (i := 13) (v := undef) rfl (by kernel_rfl) (by kernel_rfl) (by kernel_rfl) (fun _ _ _ h => h) (Or.inr ⟨by rfl, rfl⟩) (by assumption) ?_
    try simp only [Act.put, List.setIfInBounds_toArray, List.set_cons_zero, List.set_cons_succ]
    refine regTake (i := 14) (v := undef) rfl (by kernel_rfl) (by kernel_rfl) (by kernel_rfl) (fun _ _ _ h => h) (Or.inr ⟨by rfl, rfl⟩) (by assumption) ?_
    try simp only [Act.put, List.setIfInBounds_toArray, List.set_cons_zero, List.set_cons_succ]
    refine regTake (i := 15) (v := undef) rfl (by kernel_rfl) (by kernel_rfl) (by kernel_rfl) (fun _ _ _ h => h) (Or.inr ⟨by rfl, rfl⟩) (by assumption) ?_
    try simp only [Act.put, List.setIfInBounds_toArray, List.set_cons_zero, List.set_cons_succ]
    refine regTake (i := 16) (v := undef) rfl (by kernel_rfl) (by kernel_rfl) (by kernel_rfl) (fun _ _ _ h => h) (Or.inr ⟨by rfl, rfl⟩) (by assumption) ?_
    try simp only [Act.put, List.setIfInBounds_toArray, List.set_cons_zero, List.set_cons_succ]
    refine regTake (i := 17) (v := undef) rfl (by kernel_rfl) (by kernel_rfl) (by kernel_rfl) (fun _ _ _ h => h) (Or.inr ⟨by rfl, rfl⟩) (by assumption) ?_
    try simp only [Act.put, List.setIfInBounds_toArray, List.set_cons_zero, List.set_cons_succ]
    refine regTake (i := 18) (v := undef) rfl (by kernel_rfl) (by kernel_rfl) (by kernel_rfl) (fun _ _ _ h => h) (Or.inr ⟨by rfl, rfl⟩) (by assumption) ?_
    try simp only [Act.put, List.setIfInBounds_toArray, List.set_cons_zero, List.set_cons_succ]
    refine regTake (i := 19) (v := undef) rfl (by kernel_rfl) (by kernel_rfl) (by kernel_rfl) (fun _ _ _ h => h) (Or.inr ⟨by rfl, rfl⟩) (by assumption) ?_
    try simp only [Act.put, List.setIfInBounds_toArray, List.set_cons_zero, List.set_cons_succ]
    refine regTake (i := 20) (v := undef) rfl (by kernel_rfl) (by kernel_rfl) (by kernel_rfl) (fun _ _ _ h => h) (Or.inr ⟨by rfl, rfl⟩) (by assumption) ?_
    try simp only [Act.put, List.setIfInBounds_toArray, List.set_cons_zero, List.set_cons_succ]
    refine regTake (i := 21) (v := undef) rfl (by kernel_rfl) (by kernel_rfl) (by kernel_rfl) (fun _ _ _ h => h) (Or.inr ⟨by rfl, rfl⟩) (by assumption) ?_
    try simp only [Act.put, List.setIfInBounds_toArray, List.set_cons_zero, List.set_cons_succ]
    refine regTake (i := 22) (v := .bool false) rfl (by kernel_rfl) (by kernel_rfl) (by kernel_rfl) (fun _ _ _ h => h) (Or.inl ⟨by rfl, ?hyn21_22⟩) (by assumption) ?_
    case hyn21_22 => (intro w hSw; (try dsimp only at hSw); go_simp; (try with_reducible rfl))
    try simp only [Act.put, List.setIfInBounds_toArray, List.set_cons_zero, List.set_cons_succ]
    refine regTake (i := 23) (v := ?vn21_23) rfl (by kernel_rfl) (by kernel_rfl) (by kernel_rfl) (fun _ _ _ h => h) (Or.inl ⟨by rfl, ?hyn21_23⟩) (by assumption) ?_
    case hyn21_23 => (intro w hSw; (try dsimp only at hSw); go_simp; (try with_reducible rfl))
    try simp only [Act.put, List.setIfInBounds_toArray, List.set_cons_zero, List.set_cons_succ]
    refine wpAnyH_done (by kernel_rfl) ?_ _
    go_wp2_with fail
    go_ret
    exact ⟨ret_b rfl, below_trans hb01 (hk1)⟩
  · go_enter Try.func114, Try.ntmps114
    go_wp2_with fail
    refine (eith_any _ _ _ _ _ _ _ (h1'.below hb0) (h2'.below hb0)).mono ?_
    rintro e w1 ⟨he, hb1⟩
    obtain rfl : e = .returned (.bool false) := he
    obtain ⟨x0, x1, x2, x3⟩ := box_cells2 hb1
    have hb01 := below_trans hb0 hb1
    replace d0 := cell_keep d0 hb01
    replace d1 := cell_keep d1 hb01
    replace d2 := cell_keep d2 hb01
    replace d3 := cell_keep d3 hb01
    replace e0 := cell_keep e0 hb01
    replace e1 := cell_keep e1 hb01
    replace e2 := cell_keep e2 hb01
    replace e3 := cell_keep e3 hb01
    have H := hid (And.intro (H0.out.1.below hb01) (And.intro (H0.out.2.1.below hb01) (And.intro (H0.out.2.2.1.below hb01) (H0.out.2.2.2.below hb01))))
    clear h1' h2' hb0 hb1
    go_wp2_with fail
    refine wp_region_held_drew (S := (fun w' => Below (w1).heap.size w1 w' ∧ w'.cell? ⟨w.heap.size, 0, none⟩ = some (.int .i64 4) ∧ w'.cell? ⟨w.heap.size, 1, none⟩ = some (.slice (some ⟨bf, of, none⟩) 2 cf) ∧ w'.cell? ⟨w.heap.size + 1, 0, none⟩ = some (.int .i64 4) ∧ w'.cell? ⟨w.heap.size + 1, 1, none⟩ = some (.slice (some ⟨bt, ot, none⟩) 2 ct) ∧ w'.cell? ⟨bf, of, none⟩ = some (.int .i64 k1) ∧ w'.cell? ⟨bf, of + 1, none⟩ = some (.slice a1 n1 c1) ∧ w'.cell? ⟨bf, of + 2, none⟩ = some (.int .i64 k2) ∧ w'.cell? ⟨bf, of + 2 + 1, none⟩ = some (.slice a2 n2 c2) ∧ w'.cell? ⟨bt, ot, none⟩ = some (.int .i64 k3) ∧ w'.cell? ⟨bt, ot + 1, none⟩ = some (.slice a3 n3 c3) ∧ w'.cell? ⟨bt, ot + 2, none⟩ = some (.int .i64 k4) ∧ w'.cell? ⟨bt, ot + 2 + 1, none⟩ = some (.slice a4 n4 c4))) (by kernel_rfl) ?_ (fun hS0 => ?_)
    · (refine (fun hB => ⟨hB, cell_keep x0 hB, cell_keep x1 hB, cell_keep x2 hB, cell_keep x3 hB, cell_keep d0 hB, cell_keep d1 hB, cell_keep d2 hB, cell_keep d3 hB, cell_keep e0 hB, cell_keep e1 hB, cell_keep e2 hB, cell_keep e3 hB⟩ : Below (w1).heap.size w1 _ → _) ?_; exact below_drew _)
    refine regTake (i := 0) (v := ?vn22_0) rfl (by kernel_rfl) (by kernel_rfl) (by kernel_rfl) (fun _ _ _ h => h) (Or.inl ⟨by rfl, ?hyn22_0⟩) (by assumption) ?_
    case hyn22_0 => (intro w hSw; (try dsimp only at hSw); go_simp; (try with_reducible rfl))
    try simp only [Act.put, List.setIfInBounds_toArray, List.set_cons_zero, List.set_cons_succ]
    refine regTake (i := 2) (v := ?vn22_2) rfl (by kernel_rfl) (by kernel_rfl) (by kernel_rfl) (fun _ _ _ h => h) (Or.inl ⟨by rfl, ?hyn22_2⟩) (by assumption) ?_
    case hyn22_2 => (intro w hSw; (try dsimp only at hSw); go_simp; (try with_reducible rfl))
    try simp only [Act.put, List.setIfInBounds_toArray, List.set_cons_zero, List.set_cons_succ]
    refine regTake (i := 3) (v := ?vn22_3) rfl (by kernel_rfl) (by kernel_rfl) (by kernel_rfl) (fun _ _ _ h => h) (Or.inl ⟨by rfl, ?hyn22_3⟩) (by assumption) ?_
    case hyn22_3 => (intro w hSw; (try dsimp only at hSw); go_simp; (try with_reducible rfl))
    try simp only [Act.put, List.setIfInBounds_toArray, List.set_cons_zero, List.set_cons_succ]
    refine regTake (i := 4) (v := ?vn22_4) rfl (by kernel_rfl) (by kernel_rfl) (by kernel_rfl) (fun _ _ _ h => h) (Or.inl ⟨by rfl, ?hyn22_4⟩) (by assumption) ?_
    case hyn22_4 => (intro w hSw; (try dsimp only at hSw); go_simp; (try with_reducible rfl))
    try simp only [Act.put, List.setIfInBounds_toArray, List.set_cons_zero, List.set_cons_succ]
    refine regTake (i := 5) (v := ?vn22_5) rfl (by kernel_rfl) (by kernel_rfl) (by kernel_rfl) (fun _ _ _ h => h) (Or.inl ⟨by rfl, ?hyn22_5⟩) (by assumption) ?_
    case hyn22_5 => (intro w hSw; (try dsimp only at hSw); go_simp; (try with_reducible rfl))
    try simp only [Act.put, List.setIfInBounds_toArray, List.set_cons_zero, List.set_cons_succ]
    refine regTake (i := 6) (v := ?vn22_6) rfl (by kernel_rfl) (by kernel_rfl) (by kernel_rfl) (fun _ _ _ h => h) (Or.inl ⟨by rfl, ?hyn22_6⟩) (by assumption) ?_
    case hyn22_6 => (intro w hSw; (try dsimp only at hSw); go_simp; (try with_reducible rfl))
    try simp only [Act.put, List.setIfInBounds_toArray, List.set_cons_zero, List.set_cons_succ]
    refine regTake (i := 7) (v := ?vn22_7) rfl (by kernel_rfl) (by kernel_rfl) (by kernel_rfl) (fun _ _ _ h => h) (Or.inl ⟨by rfl, ?hyn22_7⟩) (by assumption) ?_
    case hyn22_7 => (intro w hSw; (try dsimp only at hSw); go_simp; (try with_reducible rfl))
    try simp only [Act.put, List.setIfInBounds_toArray, List.set_cons_zero, List.set_cons_succ]
    refine regTake (i := 8) (v := ?vn22_8) rfl (by kernel_rfl) (by kernel_rfl) (by kernel_rfl) (fun _ _ _ h => h) (Or.inl ⟨by rfl, ?hyn22_8⟩) (by assumption) ?_
    case hyn22_8 => (intro w hSw; (try dsimp only at hSw); go_simp; (try with_reducible rfl))
    try simp only [Act.put, List.setIfInBounds_toArray, List.set_cons_zero, List.set_cons_succ]
    refine regTake (i := 9) (v := ?vn22_9) rfl (by kernel_rfl) (by kernel_rfl) (by kernel_rfl) (fun _ _ _ h => h) (Or.inl ⟨by rfl, ?hyn22_9⟩) (by assumption) ?_
    case hyn22_9 => (intro w hSw; (try dsimp only at hSw); go_simp; (try with_reducible rfl))
    try simp only [Act.put, List.setIfInBounds_toArray, List.set_cons_zero, List.set_cons_succ]
    refine wpAnyH_ready (rs := [1]) (by kernel_rfl) (by simp) ?_
    refine regCons rfl (fun K hK => ?_)
    go_simp
    refine (HFL.out _).mono ?_
    rintro e w2 ⟨rfl, rfl⟩
    have hk0 := below_drew w1
    refine hK.out _ _ ?_ (fun hS1 => ?_)
    · (refine (fun hB => ⟨hB, cell_keep x0 hB, cell_keep x1 hB, cell_keep x2 hB, cell_keep x3 hB, cell_keep d0 hB, cell_keep d1 hB, cell_keep d2 hB, cell_keep d3 hB, cell_keep e0 hB, cell_keep e1 hB, cell_keep e2 hB, cell_keep e3 hB⟩ : Below (w1).heap.size w1 _ → _) ?_; exact hk0)
    clear hK K hS0
    try simp only [Act.put, List.setIfInBounds_toArray, List.set_cons_zero, List.set_cons_succ]
    refine wpAnyH_ready (rs := [10]) (by kernel_rfl) (by simp) ?_
    refine regCons rfl (fun K hK => ?_)
    go_simp
    refine (HIH.out (-p) x' x _ _ _ _ _ HPP.out.2 HP.out.2.2.1 HP.out.1 (H.out.2.2.1.below (below_drew _)) (H.out.1.below (below_drew _))).mono ?_
    rw [HA.out]
    rintro e w2 ⟨rfl, hb2⟩
    have hk1 := below_trans (below_drew w1) hb2
    refine hK.out _ _ ?_ (fun hS2 => ?_)
    · (refine (fun hB => ⟨hB, cell_keep x0 hB, cell_keep x1 hB, cell_keep x2 hB, cell_keep x3 hB, cell_keep d0 hB, cell_keep d1 hB, cell_keep d2 hB, cell_keep d3 hB, cell_keep e0 hB, cell_keep e1 hB, cell_keep e2 hB, cell_keep e3 hB⟩ : Below (w1).heap.size w1 _ → _) ?_; exact hk1)
    clear hK K hS1
    try simp only [Act.put, List.setIfInBounds_toArray, List.set_cons_zero, List.set_cons_succ]
    refine regTake (i := 11) (v := ?vn22_11) rfl (by kernel_rfl) (by kernel_rfl) (by kernel_rfl) (fun _ _ _ h => h) (Or.inl ⟨by rfl, ?hyn22_11⟩) (by assumption) ?_
    case hyn22_11 => (intro w hSw; (try dsimp only at hSw); go_simp; (try with_reducible rfl))
    try simp only [Act.put, List.setIfInBounds_toArray, List.set_cons_zero, List.set_cons_succ]
    refine regTake (i := 12) (v := ?vn22_12) rfl (by kernel_rfl) (by kernel_rfl) (by kernel_rfl) (fun _ _ _ h => h) (Or.inl ⟨by rfl, ?hyn22_12⟩) (by assumption) ?_
    case hyn22_12 => (intro w hSw; (try dsimp only at hSw); go_simp; (try with_reducible rfl))
    try simp only [Act.put, List.setIfInBounds_toArray, List.set_cons_zero, List.set_cons_succ]
    refine regTake (i := 13) (v := ?vn22_13) rfl (by kernel_rfl) (by kernel_rfl) (by kernel_rfl) (fun _ _ _ h => h) (Or.inl ⟨by rfl, ?hyn22_13⟩) (by assumption) ?_
    case hyn22_13 => (intro w hSw; (try dsimp only at hSw); go_simp; (try with_reducible rfl))
    try simp only [Act.put, List.setIfInBounds_toArray, List.set_cons_zero, List.set_cons_succ]
    refine regTake (i := 14) (v := ?vn22_14) rfl (by kernel_rfl) (by kernel_rfl) (by kernel_rfl) (fun _ _ _ h => h) (Or.inl ⟨by rfl, ?hyn22_14⟩) (by assumption) ?_
    case hyn22_14 => (intro w hSw; (try dsimp only at hSw); go_simp; (try with_reducible rfl))
    try simp only [Act.put, List.setIfInBounds_toArray, List.set_cons_zero, List.set_cons_succ]
    refine regTake (i := 15) (v := ?vn22_15) rfl (by kernel_rfl) (by kernel_rfl) (by kernel_rfl) (fun _ _ _ h => h) (Or.inl ⟨by rfl, ?hyn22_15⟩) (by assumption) ?_
    case hyn22_15 => (intro w hSw; (try dsimp only at hSw); go_simp; (try with_reducible rfl))
    try simp only [Act.put, List.setIfInBounds_toArray, List.set_cons_zero, List.set_cons_succ]
    refine regTake (i := 16) (v := ?vn22_16) rfl (by kernel_rfl) (by kernel_rfl) (by kernel_rfl) (fun _ _ _ h => h) (Or.inl ⟨by rfl, ?hyn22_16⟩) (by assumption) ?_
    case hyn22_16 => (intro w hSw; (try dsimp only at hSw); go_simp; (try with_reducible rfl))
    try simp only [Act.put, List.setIfInBounds_toArray, List.set_cons_zero, List.set_cons_succ]
    refine regTake (i := 17) (v := ?vn22_17) rfl (by kernel_rfl) (by kernel_rfl) (by kernel_rfl) (fun _ _ _ h => h) (Or.inl ⟨by rfl, ?hyn22_17⟩) (by assumption) ?_
    case hyn22_17 => (intro w hSw; (try dsimp only at hSw); go_simp; (try with_reducible rfl))
    try simp only [Act.put, List.setIfInBounds_toArray, List.set_cons_zero, List.set_cons_succ]
    refine regTake (i := 18) (v := ?vn22_18) rfl (by kernel_rfl) (by kernel_rfl) (by kernel_rfl) (fun _ _ _ h => h) (Or.inl ⟨by rfl, ?hyn22_18⟩) (by assumption) ?_
    case hyn22_18 => (intro w hSw; (try dsimp only at hSw); go_simp; (try with_reducible rfl))
    try simp only [Act.put, List.setIfInBounds_toArray, List.set_cons_zero, List.set_cons_succ]
    refine regTake (i := 19) (v := ?vn22_19) rfl (by kernel_rfl) (by kernel_rfl) (by kernel_rfl) (fun _ _ _ h => h) (Or.inl ⟨by rfl, ?hyn22_19⟩) (by assumption) ?_
    case hyn22_19 => (intro w hSw; (try dsimp only at hSw); go_simp; (try with_reducible rfl))
    try simp only [Act.put, List.setIfInBounds_toArray, List.set_cons_zero, List.set_cons_succ]
    refine regTake (i := 20) (v := ?vn22_20) rfl (by kernel_rfl) (by kernel_rfl) (by kernel_rfl) (fun _ _ _ h => h) (Or.inl ⟨by rfl, ?hyn22_20⟩) (by assumption) ?_
    case hyn22_20 => (intro w hSw; (try dsimp only at hSw); go_simp; (try with_reducible rfl))
    try simp only [Act.put, List.setIfInBounds_toArray, List.set_cons_zero, List.set_cons_succ]
    refine wpAnyH_ready (rs := [21]) (by kernel_rfl) (by simp) ?_
    refine regCons rfl (fun K hK => ?_)
    go_simp
    refine (HIH.out p y y' _ _ _ _ _ HPP.out.1 HP.out.2.1 HP.out.2.2.2 (H.out.2.1.below hk1) (H.out.2.2.2.below hk1)).mono ?_
    rw [HB.out]
    rintro e w3 ⟨rfl, hb3⟩
    have hk2 := below_trans hk1 hb3
    refine hK.out _ _ ?_ (fun hS3 => ?_)
    · (refine (fun hB => ⟨hB, cell_keep x0 hB, cell_keep x1 hB, cell_keep x2 hB, cell_keep x3 hB, cell_keep d0 hB, cell_keep d1 hB, cell_keep d2 hB, cell_keep d3 hB, cell_keep e0 hB, cell_keep e1 hB, cell_keep e2 hB, cell_keep e3 hB⟩ : Below (w1).heap.size w1 _ → _) ?_; exact hk2)
    clear hK K hS2
    try simp only [Act.put, List.setIfInBounds_toArray, List.set_cons_zero, List.set_cons_succ]
    refine regTake (i := 22) (v := .bool B) rfl (by kernel_rfl) (by kernel_rfl) (by kernel_rfl) (fun _ _ _ h => h) (Or.inl ⟨by rfl, ?hyn22_22⟩) (by assumption) ?_
    case hyn22_22 => (intro w hSw; (try dsimp only at hSw); go_simp; (try with_reducible rfl))
    try simp only [Act.put, List.setIfInBounds_toArray, List.set_cons_zero, List.set_cons_succ]
    refine regTake (i := 23) (v := ?vn22_23) rfl (by kernel_rfl) (by kernel_rfl) (by kernel_rfl) (fun _ _ _ h => h) (Or.inl ⟨by rfl, ?hyn22_23⟩) (by assumption) ?_
    case hyn22_23 => (intro w hSw; (try dsimp only at hSw); go_simp; (try with_reducible rfl))
    try simp only [Act.put, List.setIfInBounds_toArray, List.set_cons_zero, List.set_cons_succ]
    refine wpAnyH_done (by kernel_rfl) ?_ _
    go_wp2_with fail
    go_ret
    exact ⟨ret_b rfl, below_trans hb01 (hk2)⟩

set_option maxRecDepth 100000 in
set_option maxHeartbeats 4000000 in
theorem hol_two5 (d : Nat) (ih : HoC d) (p : Int) (hp : pol p) (x y x' y' : Ty) (v1 v2 : Value) (f1 f2 : List Nat) (w : World) (hx : shp d x = true) (hy : shp d y = true) (hx' : shp d x' = true) (hy' : shp d y' = true) (h1 : (Ty.mk 5 [x, y]).At w v1 f1) (h2 : (Ty.mk 5 [x', y']).At w v2 f2) :
    Calls Try.prog 114 #[.int .i64 p, v1, v2] w (fun e w' => e = .returned (.bool (sub d p x x' && sub d p y y')) ∧ Below w.heap.size w w') := by
  have h1' := h1
  have h2' := h2
  obtain ⟨s1, rfl, hs1⟩ := Ty.at_mk.1 h1
  obtain ⟨s2, rfl, hs2⟩ := Ty.at_mk.1 h2
  obtain ⟨bf, of, cf, k1, n1, a1, c1, k2, n2, a2, c2, g1, g2, rfl, hbf, d0, d1, d2, d3, hX1, hX2, _, hcf⟩ := hs1.two
  obtain ⟨bt, ot, ct, k3, n3, a3, c3, k4, n4, a4, c4, g3, g4, rfl, hbt, e0, e1, e2, e3, hY1, hY2, _, hct⟩ := hs2.two
  have hb0 : Below w.heap.size w ((w.alloc (Obj.cells #[.int .i64 5, .slice (some ⟨bf, of, none⟩) 2 cf] 25)).alloc (Obj.cells #[.int .i64 5, .slice (some ⟨bt, ot, none⟩) 2 ct] 25)) := ((Below.refl _ _).alloc (Nat.le_refl _) _).alloc (by simp) _
  have H0 := hid (And.intro hX1 (And.intro hX2 (And.intro hY1 hY2)))
  have HP := hid (And.intro hx (And.intro hy (And.intro hx' hy')))
  have HPP := hid (And.intro hp (pol_neg hp))
  have HIH := hid ih
  have HFL := hid (fun w => flip_any p hp w)
  clear ih h1 h2 hs1 hs2 hX1 hX2 hY1 hY2 hx hy hx' hy' hp
  generalize hA : sub d p x x' = A at *
  generalize hB : sub d p y y' = B at *
  have HA := hid hA
  have HB := hid hB
  clear hA hB
  cases A
  · go_enter Try.func114, Try.ntmps114
    go_wp2_with fail
    refine (eith_any _ _ _ _ _ _ _ (h1'.below hb0) (h2'.below hb0)).mono ?_
    rintro e w1 ⟨he, hb1⟩
    obtain rfl : e = .returned (.bool false) := he
    obtain ⟨x0, x1, x2, x3⟩ := box_cells2 hb1
    have hb01 := below_trans hb0 hb1
    replace d0 := cell_keep d0 hb01
    replace d1 := cell_keep d1 hb01
    replace d2 := cell_keep d2 hb01
    replace d3 := cell_keep d3 hb01
    replace e0 := cell_keep e0 hb01
    replace e1 := cell_keep e1 hb01
    replace e2 := cell_keep e2 hb01
    replace e3 := cell_keep e3 hb01
    have H := hid (And.intro (H0.out.1.below hb01) (And.intro (H0.out.2.1.below hb01) (And.intro (H0.out.2.2.1.below hb01) (H0.out.2.2.2.below hb01))))
    clear h1' h2' hb0 hb1
    go_wp2_with fail
    refine wp_region_held_drew (S := (fun w' => Below (w1).heap.size w1 w' ∧ w'.cell? ⟨w.heap.size, 0, none⟩ = some (.int .i64 5) ∧ w'.cell? ⟨w.heap.size, 1, none⟩ = some (.slice (some ⟨bf, of, none⟩) 2 cf) ∧ w'.cell? ⟨w.heap.size + 1, 0, none⟩ = some (.int .i64 5) ∧ w'.cell? ⟨w.heap.size + 1, 1, none⟩ = some (.slice (some ⟨bt, ot, none⟩) 2 ct) ∧ w'.cell? ⟨bf, of, none⟩ = some (.int .i64 k1) ∧ w'.cell? ⟨bf, of + 1, none⟩ = some (.slice a1 n1 c1) ∧ w'.cell? ⟨bf, of + 2, none⟩ = some (.int .i64 k2) ∧ w'.cell? ⟨bf, of + 2 + 1, none⟩ = some (.slice a2 n2 c2) ∧ w'.cell? ⟨bt, ot, none⟩ = some (.int .i64 k3) ∧ w'.cell? ⟨bt, ot + 1, none⟩ = some (.slice a3 n3 c3) ∧ w'.cell? ⟨bt, ot + 2, none⟩ = some (.int .i64 k4) ∧ w'.cell? ⟨bt, ot + 2 + 1, none⟩ = some (.slice a4 n4 c4))) (by kernel_rfl) ?_ (fun hS0 => ?_)
    · (refine (fun hB => ⟨hB, cell_keep x0 hB, cell_keep x1 hB, cell_keep x2 hB, cell_keep x3 hB, cell_keep d0 hB, cell_keep d1 hB, cell_keep d2 hB, cell_keep d3 hB, cell_keep e0 hB, cell_keep e1 hB, cell_keep e2 hB, cell_keep e3 hB⟩ : Below (w1).heap.size w1 _ → _) ?_; exact below_drew _)
    refine regTake (i := 0) (v := ?vn23_0) rfl (by kernel_rfl) (by kernel_rfl) (by kernel_rfl) (fun _ _ _ h => h) (Or.inl ⟨by rfl, ?hyn23_0⟩) (by assumption) ?_
    case hyn23_0 => (intro w hSw; (try dsimp only at hSw); go_simp; (try with_reducible rfl))
    try simp only [Act.put, List.setIfInBounds_toArray, List.set_cons_zero, List.set_cons_succ]
    refine regTake (i := 1) (v := ?vn23_1) rfl (by kernel_rfl) (by kernel_rfl) (by kernel_rfl) (fun _ _ _ h => h) (Or.inl ⟨by rfl, ?hyn23_1⟩) (by assumption) ?_
    case hyn23_1 => (intro w hSw; (try dsimp only at hSw); go_simp; (try with_reducible rfl))
    try simp only [Act.put, List.setIfInBounds_toArray, List.set_cons_zero, List.set_cons_succ]
    refine regTake (i := 2) (v := ?vn23_2) rfl (by kernel_rfl) (by kernel_rfl) (by kernel_rfl) (fun _ _ _ h => h) (Or.inl ⟨by rfl, ?hyn23_2⟩) (by assumption) ?_
    case hyn23_2 => (intro w hSw; (try dsimp only at hSw); go_simp; (try with_reducible rfl))
    try simp only [Act.put, List.setIfInBounds_toArray, List.set_cons_zero, List.set_cons_succ]
    refine regTake (i := 3) (v := ?vn23_3) rfl (by kernel_rfl) (by kernel_rfl) (by kernel_rfl) (fun _ _ _ h => h) (Or.inl ⟨by rfl, ?hyn23_3⟩) (by assumption) ?_
    case hyn23_3 => (intro w hSw; (try dsimp only at hSw); go_simp; (try with_reducible rfl))
    try simp only [Act.put, List.setIfInBounds_toArray, List.set_cons_zero, List.set_cons_succ]
    refine regTake (i := 4) (v := ?vn23_4) rfl (by kernel_rfl) (by kernel_rfl) (by kernel_rfl) (fun _ _ _ h => h) (Or.inl ⟨by rfl, ?hyn23_4⟩) (by assumption) ?_
    case hyn23_4 => (intro w hSw; (try dsimp only at hSw); go_simp; (try with_reducible rfl))
    try simp only [Act.put, List.setIfInBounds_toArray, List.set_cons_zero, List.set_cons_succ]
    refine regTake (i := 5) (v := ?vn23_5) rfl (by kernel_rfl) (by kernel_rfl) (by kernel_rfl) (fun _ _ _ h => h) (Or.inl ⟨by rfl, ?hyn23_5⟩) (by assumption) ?_
    case hyn23_5 => (intro w hSw; (try dsimp only at hSw); go_simp; (try with_reducible rfl))
    try simp only [Act.put, List.setIfInBounds_toArray, List.set_cons_zero, List.set_cons_succ]
    refine regTake (i := 6) (v := ?vn23_6) rfl (by kernel_rfl) (by kernel_rfl) (by kernel_rfl) (fun _ _ _ h => h) (Or.inl ⟨by rfl, ?hyn23_6⟩) (by assumption) ?_
    case hyn23_6 => (intro w hSw; (try dsimp only at hSw); go_simp; (try with_reducible rfl))
    try simp only [Act.put, List.setIfInBounds_toArray, List.set_cons_zero, List.set_cons_succ]
    refine regTake (i := 7) (v := ?vn23_7) rfl (by kernel_rfl) (by kernel_rfl) (by kernel_rfl) (fun _ _ _ h => h) (Or.inl ⟨by rfl, ?hyn23_7⟩) (by assumption) ?_
    case hyn23_7 => (intro w hSw; (try dsimp only at hSw); go_simp; (try with_reducible rfl))
    try simp only [Act.put, List.setIfInBounds_toArray, List.set_cons_zero, List.set_cons_succ]
    refine regTake (i := 8) (v := ?vn23_8) rfl (by kernel_rfl) (by kernel_rfl) (by kernel_rfl) (fun _ _ _ h => h) (Or.inl ⟨by rfl, ?hyn23_8⟩) (by assumption) ?_
    case hyn23_8 => (intro w hSw; (try dsimp only at hSw); go_simp; (try with_reducible rfl))
    try simp only [Act.put, List.setIfInBounds_toArray, List.set_cons_zero, List.set_cons_succ]
    refine wpAnyH_ready (rs := [9]) (by kernel_rfl) (by simp) ?_
    refine regCons rfl (fun K hK => ?_)
    go_simp
    refine (HIH.out p x x' _ _ _ _ _ HPP.out.1 HP.out.1 HP.out.2.2.1 (H.out.1.below (below_drew _)) (H.out.2.2.1.below (below_drew _))).mono ?_
    rw [HA.out]
    rintro e w2 ⟨rfl, hb2⟩
    have hk0 := below_trans (below_drew w1) hb2
    refine hK.out _ _ ?_ (fun hS1 => ?_)
    · (refine (fun hB => ⟨hB, cell_keep x0 hB, cell_keep x1 hB, cell_keep x2 hB, cell_keep x3 hB, cell_keep d0 hB, cell_keep d1 hB, cell_keep d2 hB, cell_keep d3 hB, cell_keep e0 hB, cell_keep e1 hB, cell_keep e2 hB, cell_keep e3 hB⟩ : Below (w1).heap.size w1 _ → _) ?_; exact hk0)
    clear hK K hS0
    try simp only [Act.put, List.setIfInBounds_toArray, List.set_cons_zero, List.set_cons_succ]
    refine regTake (i := 10) (v := ?vn23_10) rfl (by kernel_rfl) (by kernel_rfl) (by kernel_rfl) (fun _ _ _ h => h) (Or.inl ⟨by rfl, ?hyn23_10⟩) (by assumption) ?_
    case hyn23_10 => (intro w hSw; (try dsimp only at hSw); go_simp; (try with_reducible rfl))
    try simp only [Act.put, List.setIfInBounds_toArray, List.set_cons_zero, List.set_cons_succ]
    refine regTake (i := 11) (v := undef) rfl (by kernel_rfl) (by kernel_rfl) (by kernel_rfl) (fun _ _ _ h => h) (Or.inr ⟨by rfl, rfl⟩) (by assumption) ?_
    try simp only [Act.put, List.setIfInBounds_toArray, List.set_cons_zero, List.set_cons_succ]
    refine regTake (i := 12) (v := undef) rfl (by kernel_rfl) (by kernel_rfl) (by kernel_rfl) (fun _ _ _ h => h) (Or.inr ⟨by rfl, rfl⟩) (by assumption) ?_
    try simp only [Act.put, List.setIfInBounds_toArray, List.set_cons_zero, List.set_cons_succ]
    refine regTake (i := 13) (v := undef) rfl (by kernel_rfl) (by kernel_rfl) (by kernel_rfl) (fun _ _ _ h => h) (Or.inr ⟨by rfl, rfl⟩) (by assumption) ?_
    try simp only [Act.put, List.setIfInBounds_toArray, List.set_cons_zero, List.set_cons_succ]
    refine regTake (i := 14) (v := undef) rfl (by kernel_rfl) (by kernel_rfl) (by kernel_rfl) (fun _ _ _ h => h) (Or.inr ⟨by rfl, rfl⟩) (by assumption) ?_
    try simp only [Act.put, List.setIfInBounds_toArray, List.set_cons_zero, List.set_cons_succ]
    refine regTake (i := 15) (v := undef) rfl (by kernel_rfl) (by kernel_rfl) (by kernel_rfl) (fun _ _ _ h => h) (Or.inr ⟨by rfl, rfl⟩) (by assumption) ?_
    try simp only [Act.put, List.setIfInBounds_toArray, List.set_cons_zero, List.set_cons_succ]
    refine regTake (i := 16) (v := undef) rfl (by kernel_rfl) (by kernel_rfl) (by kernel_rfl) (fun _ _ _ h => h) (Or.inr ⟨by rfl, rfl⟩) (by assumption) ?_
    try simp only [Act.put, List.setIfInBounds_toArray, List.set_cons_zero, List.set_cons_succ]
    refine regTake (i := 17) (v := undef) rfl (by kernel_rfl) (by kernel_rfl) (by kernel_rfl) (fun _ _ _ h => h) (Or.inr ⟨by rfl, rfl⟩) (by assumption) ?_
    try simp only [Act.put, List.setIfInBounds_toArray, List.set_cons_zero, List.set_cons_succ]
    refine regTake (i := 18) (v := undef) rfl (by kernel_rfl) (by kernel_rfl) (by kernel_rfl) (fun _ _ _ h => h) (Or.inr ⟨by rfl, rfl⟩) (by assumption) ?_
    try simp only [Act.put, List.setIfInBounds_toArray, List.set_cons_zero, List.set_cons_succ]
    refine regTake (i := 19) (v := undef) rfl (by kernel_rfl) (by kernel_rfl) (by kernel_rfl) (fun _ _ _ h => h) (Or.inr ⟨by rfl, rfl⟩) (by assumption) ?_
    try simp only [Act.put, List.setIfInBounds_toArray, List.set_cons_zero, List.set_cons_succ]
    refine regTake (i := 20) (v := undef) rfl (by kernel_rfl) (by kernel_rfl) (by kernel_rfl) (fun _ _ _ h => h) (Or.inr ⟨by rfl, rfl⟩) (by assumption) ?_
    try simp only [Act.put, List.setIfInBounds_toArray, List.set_cons_zero, List.set_cons_succ]
    refine regTake (i := 21) (v := .bool false) rfl (by kernel_rfl) (by kernel_rfl) (by kernel_rfl) (fun _ _ _ h => h) (Or.inl ⟨by rfl, ?hyn23_21⟩) (by assumption) ?_
    case hyn23_21 => (intro w hSw; (try dsimp only at hSw); go_simp; (try with_reducible rfl))
    try simp only [Act.put, List.setIfInBounds_toArray, List.set_cons_zero, List.set_cons_succ]
    refine regTake (i := 22) (v := ?vn23_22) rfl (by kernel_rfl) (by kernel_rfl) (by kernel_rfl) (fun _ _ _ h => h) (Or.inl ⟨by rfl, ?hyn23_22⟩) (by assumption) ?_
    case hyn23_22 => (intro w hSw; (try dsimp only at hSw); go_simp; (try with_reducible rfl))
    try simp only [Act.put, List.setIfInBounds_toArray, List.set_cons_zero, List.set_cons_succ]
    refine wpAnyH_done (by kernel_rfl) ?_ _
    go_wp2_with fail
    go_ret
    exact ⟨ret_b rfl, below_trans hb01 (hk0)⟩
  · go_enter Try.func114, Try.ntmps114
    go_wp2_with fail
    refine (eith_any _ _ _ _ _ _ _ (h1'.below hb0) (h2'.below hb0)).mono ?_
    rintro e w1 ⟨he, hb1⟩
    obtain rfl : e = .returned (.bool false) := he
    obtain ⟨x0, x1, x2, x3⟩ := box_cells2 hb1
    have hb01 := below_trans hb0 hb1
    replace d0 := cell_keep d0 hb01
    replace d1 := cell_keep d1 hb01
    replace d2 := cell_keep d2 hb01
    replace d3 := cell_keep d3 hb01
    replace e0 := cell_keep e0 hb01
    replace e1 := cell_keep e1 hb01
    replace e2 := cell_keep e2 hb01
    replace e3 := cell_keep e3 hb01
    have H := hid (And.intro (H0.out.1.below hb01) (And.intro (H0.out.2.1.below hb01) (And.intro (H0.out.2.2.1.below hb01) (H0.out.2.2.2.below hb01))))
    clear h1' h2' hb0 hb1
    go_wp2_with fail
    refine wp_region_held_drew (S := (fun w' => Below (w1).heap.size w1 w' ∧ w'.cell? ⟨w.heap.size, 0, none⟩ = some (.int .i64 5) ∧ w'.cell? ⟨w.heap.size, 1, none⟩ = some (.slice (some ⟨bf, of, none⟩) 2 cf) ∧ w'.cell? ⟨w.heap.size + 1, 0, none⟩ = some (.int .i64 5) ∧ w'.cell? ⟨w.heap.size + 1, 1, none⟩ = some (.slice (some ⟨bt, ot, none⟩) 2 ct) ∧ w'.cell? ⟨bf, of, none⟩ = some (.int .i64 k1) ∧ w'.cell? ⟨bf, of + 1, none⟩ = some (.slice a1 n1 c1) ∧ w'.cell? ⟨bf, of + 2, none⟩ = some (.int .i64 k2) ∧ w'.cell? ⟨bf, of + 2 + 1, none⟩ = some (.slice a2 n2 c2) ∧ w'.cell? ⟨bt, ot, none⟩ = some (.int .i64 k3) ∧ w'.cell? ⟨bt, ot + 1, none⟩ = some (.slice a3 n3 c3) ∧ w'.cell? ⟨bt, ot + 2, none⟩ = some (.int .i64 k4) ∧ w'.cell? ⟨bt, ot + 2 + 1, none⟩ = some (.slice a4 n4 c4))) (by kernel_rfl) ?_ (fun hS0 => ?_)
    · (refine (fun hB => ⟨hB, cell_keep x0 hB, cell_keep x1 hB, cell_keep x2 hB, cell_keep x3 hB, cell_keep d0 hB, cell_keep d1 hB, cell_keep d2 hB, cell_keep d3 hB, cell_keep e0 hB, cell_keep e1 hB, cell_keep e2 hB, cell_keep e3 hB⟩ : Below (w1).heap.size w1 _ → _) ?_; exact below_drew _)
    refine regTake (i := 0) (v := ?vn24_0) rfl (by kernel_rfl) (by kernel_rfl) (by kernel_rfl) (fun _ _ _ h => h) (Or.inl ⟨by rfl, ?hyn24_0⟩) (by assumption) ?_
    case hyn24_0 => (intro w hSw; (try dsimp only at hSw); go_simp; (try with_reducible rfl))
    try simp only [Act.put, List.setIfInBounds_toArray, List.set_cons_zero, List.set_cons_succ]
    refine regTake (i := 1) (v := ?vn24_1) rfl (by kernel_rfl) (by kernel_rfl) (by kernel_rfl) (fun _ _ _ h => h) (Or.inl ⟨by rfl, ?hyn24_1⟩) (by assumption) ?_
    case hyn24_1 => (intro w hSw; (try dsimp only at hSw); go_simp; (try with_reducible rfl))
    try simp only [Act.put, List.setIfInBounds_toArray, List.set_cons_zero, List.set_cons_succ]
    refine regTake (i := 2) (v := ?vn24_2) rfl (by kernel_rfl) (by kernel_rfl) (by kernel_rfl) (fun _ _ _ h => h) (Or.inl ⟨by rfl, ?hyn24_2⟩) (by assumption) ?_
    case hyn24_2 => (intro w hSw; (try dsimp only at hSw); go_simp; (try with_reducible rfl))
    try simp only [Act.put, List.setIfInBounds_toArray, List.set_cons_zero, List.set_cons_succ]
    refine regTake (i := 3) (v := ?vn24_3) rfl (by kernel_rfl) (by kernel_rfl) (by kernel_rfl) (fun _ _ _ h => h) (Or.inl ⟨by rfl, ?hyn24_3⟩) (by assumption) ?_
    case hyn24_3 => (intro w hSw; (try dsimp only at hSw); go_simp; (try with_reducible rfl))
    try simp only [Act.put, List.setIfInBounds_toArray, List.set_cons_zero, List.set_cons_succ]
    refine regTake (i := 4) (v := ?vn24_4) rfl (by kernel_rfl) (by kernel_rfl) (by kernel_rfl) (fun _ _ _ h => h) (Or.inl ⟨by rfl, ?hyn24_4⟩) (by assumption) ?_
    case hyn24_4 => (intro w hSw; (try dsimp only at hSw); go_simp; (try with_reducible rfl))
    try simp only [Act.put, List.setIfInBounds_toArray, List.set_cons_zero, List.set_cons_succ]
    refine regTake (i := 5) (v := ?vn24_5) rfl (by kernel_rfl) (by kernel_rfl) (by kernel_rfl) (fun _ _ _ h => h) (Or.inl ⟨by rfl, ?hyn24_5⟩) (by assumption) ?_
    case hyn24_5 => (intro w hSw; (try dsimp only at hSw); go_simp; (try with_reducible rfl))
    try simp only [Act.put, List.setIfInBounds_toArray, List.set_cons_zero, List.set_cons_succ]
    refine regTake (i := 6) (v := ?vn24_6) rfl (by kernel_rfl) (by kernel_rfl) (by kernel_rfl) (fun _ _ _ h => h) (Or.inl ⟨by rfl, ?hyn24_6⟩) (by assumption) ?_
    case hyn24_6 => (intro w hSw; (try dsimp only at hSw); go_simp; (try with_reducible rfl))
    try simp only [Act.put, List.setIfInBounds_toArray, List.set_cons_zero, List.set_cons_succ]
    refine regTake (i := 7) (v := ?vn24_7) rfl (by kernel_rfl) (by kernel_rfl) (by kernel_rfl) (fun _ _ _ h => h) (Or.inl ⟨by rfl, ?hyn24_7⟩) (by assumption) ?_
    case hyn24_7 => (intro w hSw; (try dsimp only at hSw); go_simp; (try with_reducible rfl))
    try simp only [Act.put, List.setIfInBounds_toArray, List.set_cons_zero, List.set_cons_succ]
    refine regTake (i := 8) (v := ?vn24_8) rfl (by kernel_rfl) (by kernel_rfl) (by kernel_rfl) (fun _ _ _ h => h) (Or.inl ⟨by rfl, ?hyn24_8⟩) (by assumption) ?_
    case hyn24_8 => (intro w hSw; (try dsimp only at hSw); go_simp; (try with_reducible rfl))
    try simp only [Act.put, List.setIfInBounds_toArray, List.set_cons_zero, List.set_cons_succ]
    refine wpAnyH_ready (rs := [9]) (by kernel_rfl) (by simp) ?_
    refine regCons rfl (fun K hK => ?_)
    go_simp
    refine (HIH.out p x x' _ _ _ _ _ HPP.out.1 HP.out.1 HP.out.2.2.1 (H.out.1.below (below_drew _)) (H.out.2.2.1.below (below_drew _))).mono ?_
    rw [HA.out]
    rintro e w2 ⟨rfl, hb2⟩
    have hk0 := below_trans (below_drew w1) hb2
    refine hK.out _ _ ?_ (fun hS1 => ?_)
    · (refine (fun hB => ⟨hB, cell_keep x0 hB, cell_keep x1 hB, cell_keep x2 hB, cell_keep x3 hB, cell_keep d0 hB, cell_keep d1 hB, cell_keep d2 hB, cell_keep d3 hB, cell_keep e0 hB, cell_keep e1 hB, cell_keep e2 hB, cell_keep e3 hB⟩ : Below (w1).heap.size w1 _ → _) ?_; exact hk0)
    clear hK K hS0
    try simp only [Act.put, List.setIfInBounds_toArray, List.set_cons_zero, List.set_cons_succ]
    refine regTake (i := 10) (v := ?vn24_10) rfl (by kernel_rfl) (by kernel_rfl) (by kernel_rfl) (fun _ _ _ h => h) (Or.inl ⟨by rfl, ?hyn24_10⟩) (by assumption) ?_
    case hyn24_10 => (intro w hSw; (try dsimp only at hSw); go_simp; (try with_reducible rfl))
    try simp only [Act.put, List.setIfInBounds_toArray, List.set_cons_zero, List.set_cons_succ]
    refine regTake (i := 11) (v := ?vn24_11) rfl (by kernel_rfl) (by kernel_rfl) (by kernel_rfl) (fun _ _ _ h => h) (Or.inl ⟨by rfl, ?hyn24_11⟩) (by assumption) ?_
    case hyn24_11 => (intro w hSw; (try dsimp only at hSw); go_simp; (try with_reducible rfl))
    try simp only [Act.put, List.setIfInBounds_toArray, List.set_cons_zero, List.set_cons_succ]
    refine regTake (i := 12) (v := ?vn24_12) rfl (by kernel_rfl) (by kernel_rfl) (by kernel_rfl) (fun _ _ _ h => h) (Or.inl ⟨by rfl, ?hyn24_12⟩) (by assumption) ?_
    case hyn24_12 => (intro w hSw; (try dsimp only at hSw); go_simp; (try with_reducible rfl))
    try simp only [Act.put, List.setIfInBounds_toArray, List.set_cons_zero, List.set_cons_succ]
    refine regTake (i := 13) (v := ?vn24_13) rfl (by kernel_rfl) (by kernel_rfl) (by kernel_rfl) (fun _ _ _ h => h) (Or.inl ⟨by rfl, ?hyn24_13⟩) (by assumption) ?_
    case hyn24_13 => (intro w hSw; (try dsimp only at hSw); go_simp; (try with_reducible rfl))
    try simp only [Act.put, List.setIfInBounds_toArray, List.set_cons_zero, List.set_cons_succ]
    refine regTake (i := 14) (v := ?vn24_14) rfl (by kernel_rfl) (by kernel_rfl) (by kernel_rfl) (fun _ _ _ h => h) (Or.inl ⟨by rfl, ?hyn24_14⟩) (by assumption) ?_
    case hyn24_14 => (intro w hSw; (try dsimp only at hSw); go_simp; (try with_reducible rfl))
    try simp only [Act.put, List.setIfInBounds_toArray, List.set_cons_zero, List.set_cons_succ]
    refine regTake (i := 15) (v := ?vn24_15) rfl (by kernel_rfl) (by kernel_rfl) (by kernel_rfl) (fun _ _ _ h => h) (Or.inl ⟨by rfl, ?hyn24_15⟩) (by assumption) ?_
    case hyn24_15 => (intro w hSw; (try dsimp only at hSw); go_simp; (try with_reducible rfl))
    try simp only [Act.put, List.setIfInBounds_toArray, List.set_cons_zero, List.set_cons_succ]
    refine regTake (i := 16) (v := ?vn24_16) rfl (by kernel_rfl) (by kernel_rfl) (by kernel_rfl) (fun _ _ _ h => h) (Or.inl ⟨by rfl, ?hyn24_16⟩) (by assumption) ?_
    case hyn24_16 => (intro w hSw; (try dsimp only at hSw); go_simp; (try with_reducible rfl))
    try simp only [Act.put, List.setIfInBounds_toArray, List.set_cons_zero, List.set_cons_succ]
    refine regTake (i := 17) (v := ?vn24_17) rfl (by kernel_rfl) (by kernel_rfl) (by kernel_rfl) (fun _ _ _ h => h) (Or.inl ⟨by rfl, ?hyn24_17⟩) (by assumption) ?_
    case hyn24_17 => (intro w hSw; (try dsimp only at hSw); go_simp; (try with_reducible rfl))
    try simp only [Act.put, List.setIfInBounds_toArray, List.set_cons_zero, List.set_cons_succ]
    refine regTake (i := 18) (v := ?vn24_18) rfl (by kernel_rfl) (by kernel_rfl) (by kernel_rfl) (fun _ _ _ h => h) (Or.inl ⟨by rfl, ?hyn24_18⟩) (by assumption) ?_
    case hyn24_18 => (intro w hSw; (try dsimp only at hSw); go_simp; (try with_reducible rfl))
    try simp only [Act.put, List.setIfInBounds_toArray, List.set_cons_zero, List.set_cons_succ]
    refine regTake (i := 19) (v := ?vn24_19) rfl (by kernel_rfl) (by kernel_rfl) (by kernel_rfl) (fun _ _ _ h => h) (Or.inl ⟨by rfl, ?hyn24_19⟩) (by assumption) ?_
    case hyn24_19 => (intro w hSw; (try dsimp only at hSw); go_simp; (try with_reducible rfl))
    try simp only [Act.put, List.setIfInBounds_toArray, List.set_cons_zero, List.set_cons_succ]
    refine wpAnyH_ready (rs := [20]) (by kernel_rfl) (by simp) ?_
    refine regCons rfl (fun K hK => ?_)
    go_simp
    refine (HIH.out p y y' _ _ _ _ _ HPP.out.1 HP.out.2.1 HP.out.2.2.2 (H.out.2.1.below hk0) (H.out.2.2.2.below hk0)).mono ?_
    rw [HB.out]
    rintro e w3 ⟨rfl, hb3⟩
    have hk1 := below_trans hk0 hb3
    refine hK.out _ _ ?_ (fun hS2 => ?_)
    · (refine (fun hB => ⟨hB, cell_keep x0 hB, cell_keep x1 hB, cell_keep x2 hB, cell_keep x3 hB, cell_keep d0 hB, cell_keep d1 hB, cell_keep d2 hB, cell_keep d3 hB, cell_keep e0 hB, cell_keep e1 hB, cell_keep e2 hB, cell_keep e3 hB⟩ : Below (w1).heap.size w1 _ → _) ?_; exact hk1)
    clear hK K hS1
    try simp only [Act.put, List.setIfInBounds_toArray, List.set_cons_zero, List.set_cons_succ]
    refine regTake (i := 21) (v := .bool B) rfl (by kernel_rfl) (by kernel_rfl) (by kernel_rfl) (fun _ _ _ h => h) (Or.inl ⟨by rfl, ?hyn24_21⟩) (by assumption) ?_
    case hyn24_21 => (intro w hSw; (try dsimp only at hSw); go_simp; (try with_reducible rfl))
    try simp only [Act.put, List.setIfInBounds_toArray, List.set_cons_zero, List.set_cons_succ]
    refine regTake (i := 22) (v := ?vn24_22) rfl (by kernel_rfl) (by kernel_rfl) (by kernel_rfl) (fun _ _ _ h => h) (Or.inl ⟨by rfl, ?hyn24_22⟩) (by assumption) ?_
    case hyn24_22 => (intro w hSw; (try dsimp only at hSw); go_simp; (try with_reducible rfl))
    try simp only [Act.put, List.setIfInBounds_toArray, List.set_cons_zero, List.set_cons_succ]
    refine wpAnyH_done (by kernel_rfl) ?_ _
    go_wp2_with fail
    go_ret
    exact ⟨ret_b rfl, below_trans hb01 (hk1)⟩

theorem hol_same (d : Nat) (ih : HoC d) (p : Int) (hp : pol p) (a b : Ty) (h : SameK d a b) (v1 v2 : Value) (f1 f2 : List Nat) (w : World) (h1 : a.At w v1 f1) (h2 : b.At w v2 f2) :
    Calls Try.prog 114 #[.int .i64 p, v1, v2] w (fun e w' => e = .returned (.bool (subS (sub d) p (kindT a) (kidsT8 a) (kidsT8 b))) ∧ Below w.heap.size w w') := by
  cases h with
  | leaf k hk => exact hol_leaf p k hk v1 v2 f1 f2 w h1 h2
  | two k x y x' y' hk hx hy hx' hy' =>
    rcases hk with rfl | rfl
    · exact hol_two4 d ih p hp x y x' y' v1 v2 f1 f2 w hx hy hx' hy' h1 h2
    · exact hol_two5 d ih p hp x y x' y' v1 v2 f1 f2 w hx hy hx' hy' h1 h2

set_option maxRecDepth 100000 in
set_option maxHeartbeats 4000000 in
theorem hau_any (d : Nat) (ih : HoC d) (p : Int) (hp : pol p) (a b : Ty) (hu : kindT a = 1 ∨ kindT b = 1) (v1 v2 : Value) (f1 f2 : List Nat) (w : World) (ha : shp (d + 1) a = true) (hb : shp (d + 1) b = true) (h1 : a.At w v1 f1) (h2 : b.At w v2 f2) :
    Calls Try.prog 118 #[.int .i64 p, v1, v2] w (fun e w' => e = .returned (.bool (sub (d + 1) p a b)) ∧ Below w.heap.size w w') := by
  by_cases hka : kindT a = 1
  · have HT := hid (sub_any1 d p a b hka)
    clear ih
    obtain ⟨ka, ta, rfl⟩ := a.shape
    obtain ⟨kb, tb, rfl⟩ := b.shape
    have h1' := h1
    have h2' := h2
    obtain ⟨s1, rfl, hs1⟩ := Ty.at_mk.1 h1
    obtain ⟨s2, rfl, hs2⟩ := Ty.at_mk.1 h2
    obtain ⟨a1, c1, rfl⟩ := hs1.shape
    obtain ⟨a2, c2, rfl⟩ := hs2.shape
    have hka' : ka = 1 := hka
    subst hka'
    have HK := hid (show kindT (.mk kb tb) = kb from rfl)
    have hb0 : Below w.heap.size w ((w.alloc (Obj.cells #[.int .i64 1, .slice a1 ta.length c1] 25)).alloc (Obj.cells #[.int .i64 kb, .slice a2 tb.length c2] 25)) := ((Below.refl _ _).alloc (Nat.le_refl _) _).alloc (by simp) _
    clear h1 h2 hs1 hs2 h1' h2' ha hb hka hu
    by_cases hkb : kb = 1
    · subst hkb
      go_enter Try.func118, Try.ntmps118
      go_wp2_with fail
      go_ret
      exact ⟨ret_b (by rw [HT.out, HK.out]; rfl), hb0⟩
    · have hkb' : (kb == 1) = false := by rw [beq_eq_false_iff_ne]; exact hkb
      clear hkb
      rcases hp with rfl | rfl | rfl <;>
      · go_enter Try.func118, Try.ntmps118
        go_wp2_with fail
        go_ret
        exact ⟨ret_b (by rw [HT.out, HK.out, hkb']; rfl), hb0⟩
  · have hkb : kindT b = 1 := hu.resolve_left hka
    have hT := sub_any2 d p a b hka hkb
    have hsk : SameK d a (gk (kindT a)) := sameK_of ha (shp_gk8 ha) hka rfl
    have HSM := hid (fun v1 v2 f1 f2 w h1 h2 => hol_same d ih p hp a (gk (kindT a)) hsk v1 v2 f1 f2 w h1 h2)
    have HKB := hid (wf_kind (shp_wf8 ha))
    have HT := hid hT
    clear hT hsk
    generalize hr : subS (sub d) p (kindT a) (kidsT8 a) (kidsT8 (gk (kindT a))) = r at *
    clear hr ih
    obtain ⟨ka, ta, rfl⟩ := a.shape
    obtain ⟨kb, tb, rfl⟩ := b.shape
    have h1' := h1
    have h2' := h2
    obtain ⟨s1, rfl, hs1⟩ := Ty.at_mk.1 h1
    obtain ⟨s2, rfl, hs2⟩ := Ty.at_mk.1 h2
    obtain ⟨a1, c1, rfl⟩ := hs1.shape
    obtain ⟨a2, c2, rfl⟩ := hs2.shape
    have hkb' : kb = 1 := hkb
    subst hkb'
    have hka' : (ka == 1) = false := by rw [beq_eq_false_iff_ne]; exact hka
    have HKK := hid (show kindT (.mk ka ta) = ka from rfl)
    generalize hna : ta.length = na at *
    generalize hnb : tb.length = nb at *
    have hb0 : Below w.heap.size w ((w.alloc (Obj.cells #[.int .i64 ka, .slice a1 na c1] 25)).alloc (Obj.cells #[.int .i64 1, .slice a2 nb c2] 25)) := ((Below.refl _ _).alloc (Nat.le_refl _) _).alloc (by simp) _
    obtain ⟨x0, x1, x2, x3⟩ := box_cells2 (Below.refl (((w.alloc (Obj.cells #[.int .i64 ka, .slice a1 na c1] 25)).alloc (Obj.cells #[.int .i64 1, .slice a2 nb c2] 25))).heap.size ((w.alloc (Obj.cells #[.int .i64 ka, .slice a1 na c1] 25)).alloc (Obj.cells #[.int .i64 1, .slice a2 nb c2] 25)))
    have HX := hid (h1'.below hb0)
    clear h1 h2 hs1 hs2 h1' h2' ha hb hka hkb hna hnb hu
    by_cases hp1 : p = 1
    · subst hp1
      go_enter Try.func118, Try.ntmps118
      go_wp2_with fail
      go_ret
      exact ⟨ret_b (by rw [HT.out]; rfl), hb0⟩
    · have hp1' : (p == 1) = false := by rw [beq_eq_false_iff_ne]; exact hp1
      have HT2 := hid (show sub (d + 1) p (.mk ka ta) (.mk 1 tb) = r by rw [HT.out, hp1', Bool.false_or])
      clear hp1 HT hp
      go_enter Try.func118, Try.ntmps118
      go_wp2_with fail
      refine wp_region_held_drew (S := (fun w' => Below (((w.alloc (Obj.cells #[.int .i64 ka, .slice a1 na c1] 25)).alloc (Obj.cells #[.int .i64 1, .slice a2 nb c2] 25))).heap.size ((w.alloc (Obj.cells #[.int .i64 ka, .slice a1 na c1] 25)).alloc (Obj.cells #[.int .i64 1, .slice a2 nb c2] 25)) w' ∧ w'.cell? ⟨w.heap.size, 0, none⟩ = some (.int .i64 ka) ∧ w'.cell? ⟨w.heap.size, 1, none⟩ = some (.slice a1 na c1) ∧ w'.cell? ⟨w.heap.size + 1, 0, none⟩ = some (.int .i64 1) ∧ w'.cell? ⟨w.heap.size + 1, 1, none⟩ = some (.slice a2 nb c2))) (by kernel_rfl) ?_ (fun hS0 => ?_)
      · (refine (fun hB => ⟨hB, cell_keep x0 hB, cell_keep x1 hB, cell_keep x2 hB, cell_keep x3 hB⟩ : Below (((w.alloc (Obj.cells #[.int .i64 ka, .slice a1 na c1] 25)).alloc (Obj.cells #[.int .i64 1, .slice a2 nb c2] 25))).heap.size ((w.alloc (Obj.cells #[.int .i64 ka, .slice a1 na c1] 25)).alloc (Obj.cells #[.int .i64 1, .slice a2 nb c2] 25)) _ → _) ?_; exact below_drew _)
      refine regTake (i := 0) (v := ?vn25_0) rfl (by kernel_rfl) (by kernel_rfl) (by kernel_rfl) (fun _ _ _ h => h) (Or.inl ⟨by rfl, ?hyn25_0⟩) (by assumption) ?_
      case hyn25_0 => (intro w hSw; (try dsimp only at hSw); go_simp; (try with_reducible rfl))
      try simp only [Act.put, List.setIfInBounds_toArray, List.set_cons_zero, List.set_cons_succ]
      refine regTake (i := 1) (v := ?vn25_1) rfl (by kernel_rfl) (by kernel_rfl) (by kernel_rfl) (fun _ _ _ h => h) (Or.inl ⟨by rfl, ?hyn25_1⟩) (by assumption) ?_
      case hyn25_1 => (intro w hSw; (try dsimp only at hSw); go_simp; (try with_reducible rfl))
      try simp only [Act.put, List.setIfInBounds_toArray, List.set_cons_zero, List.set_cons_succ]
      refine regTake (i := 2) (v := ?vn25_2) rfl (by kernel_rfl) (by kernel_rfl) (by kernel_rfl) (fun _ _ _ h => h) (Or.inl ⟨by rfl, ?hyn25_2⟩) (by assumption) ?_
      case hyn25_2 => (intro w hSw; (try dsimp only at hSw); go_simp; (try with_reducible rfl))
      try simp only [Act.put, List.setIfInBounds_toArray, List.set_cons_zero, List.set_cons_succ]
      refine regTake (i := 3) (v := ?vn25_3) rfl (by kernel_rfl) (by kernel_rfl) (by kernel_rfl) (fun _ _ _ h => h) (Or.inl ⟨by rfl, ?hyn25_3⟩) (by assumption) ?_
      case hyn25_3 => (intro w hSw; (try dsimp only at hSw); go_simp; (try with_reducible rfl))
      try simp only [Act.put, List.setIfInBounds_toArray, List.set_cons_zero, List.set_cons_succ]
      refine wpAnyH_ready (rs := [4]) (by kernel_rfl) (by simp) ?_
      refine regCons rfl (fun K hK => ?_)
      go_simp
      refine (groundOfKind_any _ (by have := HKB.out; rw [HKK.out] at this; exact this) _).mono ?_
      rintro e w2 ⟨v2, g2, rfl, hat2, hf2, hb2⟩
      obtain ⟨kg, ng, ag, cg, rfl⟩ := hat2.agg
      have hk0 := below_trans (below_drew ((w.alloc (Obj.cells #[.int .i64 ka, .slice a1 na c1] 25)).alloc (Obj.cells #[.int .i64 1, .slice a2 nb c2] 25))) hb2
      refine hK.out _ _ ?_ (fun hS1 => ?_)
      · (refine (fun hB => ⟨hB, cell_keep x0 hB, cell_keep x1 hB, cell_keep x2 hB, cell_keep x3 hB⟩ : Below (((w.alloc (Obj.cells #[.int .i64 ka, .slice a1 na c1] 25)).alloc (Obj.cells #[.int .i64 1, .slice a2 nb c2] 25))).heap.size ((w.alloc (Obj.cells #[.int .i64 ka, .slice a1 na c1] 25)).alloc (Obj.cells #[.int .i64 1, .slice a2 nb c2] 25)) _ → _) ?_; exact hk0)
      clear hK K hS0
      try simp only [Act.put, List.setIfInBounds_toArray, List.set_cons_zero, List.set_cons_succ]
      refine wpAnyH_ready (rs := [5]) (by kernel_rfl) (by simp) ?_
      refine regCons rfl (fun K hK => ?_)
      go_simp
      refine (HSM.out _ _ _ _ _ (HX.out.below hk0) hat2).mono ?_
      rintro e w3 ⟨rfl, hb3⟩
      have hk1 := below_trans hk0 hb3
      refine hK.out _ _ ?_ (fun hS2 => ?_)
      · (refine (fun hB => ⟨hB, cell_keep x0 hB, cell_keep x1 hB, cell_keep x2 hB, cell_keep x3 hB⟩ : Below (((w.alloc (Obj.cells #[.int .i64 ka, .slice a1 na c1] 25)).alloc (Obj.cells #[.int .i64 1, .slice a2 nb c2] 25))).heap.size ((w.alloc (Obj.cells #[.int .i64 ka, .slice a1 na c1] 25)).alloc (Obj.cells #[.int .i64 1, .slice a2 nb c2] 25)) _ → _) ?_; exact hk1)
      clear hK K hS1
      try simp only [Act.put, List.setIfInBounds_toArray, List.set_cons_zero, List.set_cons_succ]
      refine regTake (i := 6) (v := ?vn25_6) rfl (by kernel_rfl) (by kernel_rfl) (by kernel_rfl) (fun _ _ _ h => h) (Or.inl ⟨by rfl, ?hyn25_6⟩) (by assumption) ?_
      case hyn25_6 => (intro w hSw; (try dsimp only at hSw); go_simp; (try with_reducible rfl))
      try simp only [Act.put, List.setIfInBounds_toArray, List.set_cons_zero, List.set_cons_succ]
      refine wpAnyH_done (by kernel_rfl) ?_ _
      go_wp2_with fail
      go_ret
      exact ⟨ret_b HT2.out.symm, below_trans hb0 (hk1)⟩

set_option maxRecDepth 100000 in
set_option maxHeartbeats 4000000 in
theorem hol_step (d : Nat) (ih : HoC d) : HoC (d + 1) := by
  intro p a b v1 v2 f1 f2 w hp ha hb h1 h2
  by_cases hu : kindT a = 1 ∨ kindT b = 1
  · have HAU := hid (fun v1 v2 f1 f2 w h1 h2 => hau_any d ih p hp a b hu v1 v2 f1 f2 w ha hb h1 h2)
    clear ih
    generalize hr : sub (d + 1) p a b = r at *
    clear hr
    obtain ⟨ka, ta, rfl⟩ := a.shape
    obtain ⟨kb, tb, rfl⟩ := b.shape
    have h1' := h1
    have h2' := h2
    obtain ⟨s1, rfl, hs1⟩ := Ty.at_mk.1 h1
    obtain ⟨s2, rfl, hs2⟩ := Ty.at_mk.1 h2
    obtain ⟨a1, c1, rfl⟩ := hs1.shape
    obtain ⟨a2, c2, rfl⟩ := hs2.shape
    generalize hna : ta.length = na at *
    generalize hnb : tb.length = nb at *
    have hb0 : Below w.heap.size w ((w.alloc (Obj.cells #[.int .i64 ka, .slice a1 na c1] 25)).alloc (Obj.cells #[.int .i64 kb, .slice a2 nb c2] 25)) := ((Below.refl _ _).alloc (Nat.le_refl _) _).alloc (by simp) _
    have HU := hid (show ((kindT (.mk ka ta) == 1) || (kindT (.mk kb tb) == 1)) = true by
      rcases hu with h | h <;> rw [h] <;> simp)
    clear h1 h2 hs1 hs2 ha hb hna hnb hu hp
    go_enter Try.func114, Try.ntmps114
    go_wp2_with fail
    refine (eith_any _ _ _ _ _ _ _ (h1'.below hb0) (h2'.below hb0)).mono ?_
    rintro e w1 ⟨he, hb1⟩
    rw [HU.out] at he
    subst he
    obtain ⟨x0, x1, x2, x3⟩ := box_cells2 hb1
    have hb01 := below_trans hb0 hb1
    have H := hid (And.intro (h1'.below hb01) (h2'.below hb01))
    clear h1' h2' hb0 hb1
    go_wp2_with fail
    first
      | (refine (HAU.out _ _ _ _ _ H.out.1 H.out.2).mono ?_
         rintro e w2 ⟨rfl, hb2⟩
         go_wp2_with fail
         go_ret
         exact ⟨rfl, below_trans hb01 hb2⟩)
  · have hka : kindT a ≠ 1 := fun e => hu (.inl e)
    have hkb : kindT b ≠ 1 := fun e => hu (.inr e)
    by_cases hkk : kindT a = kindT b
    · rw [sub_same _ _ _ _ hka hkb hkk]
      exact hol_same d ih p hp a b (sameK_of ha hb hka hkk) v1 v2 f1 f2 w h1 h2
    · have HT := hid (sub_diff d p a b hka hkb hkk)
      have HU := hid (show ((kindT a == 1) || (kindT b == 1)) = false by
        rw [beq_eq_false_iff_ne.2 hka, beq_eq_false_iff_ne.2 hkb]; rfl)
      clear ih hu
      obtain ⟨ka, ta, rfl⟩ := a.shape
      obtain ⟨kb, tb, rfl⟩ := b.shape
      have h1' := h1
      have h2' := h2
      obtain ⟨s1, rfl, hs1⟩ := Ty.at_mk.1 h1
      obtain ⟨s2, rfl, hs2⟩ := Ty.at_mk.1 h2
      obtain ⟨a1, c1, rfl⟩ := hs1.shape
      obtain ⟨a2, c2, rfl⟩ := hs2.shape
      have hkk' : (ka == kb) = false := by rw [beq_eq_false_iff_ne]; exact hkk
      have hkk2 : (ka != kb) = true := by rw [bne_iff_ne]; exact hkk
      generalize hna : ta.length = na at *
      generalize hnb : tb.length = nb at *
      have hb0 : Below w.heap.size w ((w.alloc (Obj.cells #[.int .i64 ka, .slice a1 na c1] 25)).alloc (Obj.cells #[.int .i64 kb, .slice a2 nb c2] 25)) := ((Below.refl _ _).alloc (Nat.le_refl _) _).alloc (by simp) _
      clear h1 h2 hs1 hs2 ha hb hna hnb hp hka hkb hkk
      go_enter Try.func114, Try.ntmps114
      go_wp2_with fail
      refine (eith_any _ _ _ _ _ _ _ (h1'.below hb0) (h2'.below hb0)).mono ?_
      rintro e w1 ⟨he, hb1⟩
      rw [HU.out] at he
      subst he
      obtain ⟨x0, x1, x2, x3⟩ := box_cells2 hb1
      have hb01 := below_trans hb0 hb1
      clear h1' h2' hb0 hb1
      go_wp2_with fail
      go_ret
      exact ⟨ret_b HT.out.symm, hb01⟩

theorem hol_any : ∀ d, HoC d
  | 0 => fun p a b v1 v2 f1 f2 w hp ha => by simp [shp] at ha
  | d + 1 => hol_step d (hol_any d)
end Go.Proofs.Ytelbpgdlcnnabaa
