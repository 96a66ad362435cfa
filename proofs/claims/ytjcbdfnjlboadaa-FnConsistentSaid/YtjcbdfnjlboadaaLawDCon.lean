/- The law on Consistent: it returns true and writes nothing that was there. -/
import Derived.Test.YtjcbdfnjlboadaaDr8
import Derived.Test.YtjcbdfnjlboadaaDrP
import Derived.Test.YtjcbdfnjlboadaaBlB
import Derived.Test.YtjcbdfnjlboadaaRel
import Derived.Test.YtjcbdfnjlboadaaReg
import Derived.Test.YtjcbdfnjlboadaaMeetI
import Derived.Deep.RegionHeld3
namespace Go.Proofs.Ytjcbdfnjlboadaa
open Go.RowKit

theorem cons_same8 : ∀ (d : Nat) (a b : Ty), shp d a = true → shp d b = true → a = b → cons a b = true
  | 0, a, _, ha, _, _ => by simp [shp] at ha
  | d + 1, a, b, ha, hb, h => by
    rcases rel_cases ha hb with h1 | h1 | ⟨h1, h2, h3⟩ | ⟨h1, h2, hs⟩
    · exact cons_any (.inl h1)
    · exact cons_any (.inr h1)
    · exact absurd (by rw [h]) h3
    · cases hs with
      | leaf k hk => exact cons_leaf
      | two k x y x' y' hk hx hy hx' hy' =>
        simp only [Ty.mk.injEq, List.cons.injEq, true_and, and_true] at h
        rw [cons_two hk, Bool.and_eq_true]
        exact ⟨cons_same8 d _ _ hx hx' h.1, cons_same8 d _ _ hy hy' h.2⟩

theorem con_swap (a b : Ty) : consOf b a = consOf a b := by
  unfold consOf
  cases hv : vld a with
  | false => simp
  | true => cases hv2 : vld b with
    | false => simp
    | true =>
      simp only [Bool.true_and]
      rw [Bool.eq_iff_iff]
      exact ⟨cons_comm8 4 b a hv2 hv, cons_comm8 4 a b hv hv2⟩

theorem con_self (a : Ty) : consOf a a = vld a := by
  unfold consOf
  cases hv : vld a with
  | false => simp
  | true => simp only [Bool.true_and]; exact cons_same8 4 a a hv hv rfl

set_option linter.unusedSimpArgs false in
set_option maxRecDepth 100000 in
set_option maxHeartbeats 4000000 in
theorem lawDCon (a : Option Addr) (n cap : Nat) (w : World) (hB : BytA w a n) (hn : n ≤ cap) (hm : cap ≤ maxLen) :
    Calls Try.prog 4 #[.slice a n cap] w fun e w' => e = .returned (.bool true) ∧ Below w.heap.size w w' := by
  by_cases hl : (n : Int) > 1048576
  · clear hB
    go_enter Try.func4, Try.ntmps4
    go_wp2_with fail
    go_ret
    exact ⟨rfl, Below.refl _ _⟩
  have HD := hid (drawCon_any a n cap w hB hn hm)
  clear hB
  go_enter Try.func4, Try.ntmps4
  go_wp2_with fail
  refine HD.out.mono ?_
  rintro e w1 ⟨t1, t2, v1, v2, f1, f2, rfl, hsm, h1, h2, -, -, hb⟩
  have HSM := hid hsm
  clear hsm
  obtain ⟨k1, n1, a1, c1, rfl⟩ := h1.agg
  obtain ⟨k2, n2, a2, c2, rfl⟩ := h2.agg
  have hal : Below w1.heap.size w1 ((w1.alloc (Obj.cells #[.int .i64 k1, .slice a1 n1 c1] 25)).alloc (Obj.cells #[.int .i64 k2, .slice a2 n2 c2] 25)) := ((Below.refl _ _).alloc (Nat.le_refl _) _).alloc (by simp) _
  have HBL := hid (below_trans hb hal)
  have H1 := hid (h1.below hal)
  have H2 := hid (h2.below hal)
  have HP := hid (fun (W : World) (h : Below (((w1.alloc (Obj.cells #[.int .i64 k1, .slice a1 n1 c1] 25)).alloc (Obj.cells #[.int .i64 k2, .slice a2 n2 c2] 25))).heap.size ((w1.alloc (Obj.cells #[.int .i64 k1, .slice a1 n1 c1] 25)).alloc (Obj.cells #[.int .i64 k2, .slice a2 n2 c2] 25)) W) => implConsistent t1 t2 _ _ _ _ W (H1.out.below h) (H2.out.below h))
  have HS := hid (fun (W : World) (h : Below (((w1.alloc (Obj.cells #[.int .i64 k1, .slice a1 n1 c1] 25)).alloc (Obj.cells #[.int .i64 k2, .slice a2 n2 c2] 25))).heap.size ((w1.alloc (Obj.cells #[.int .i64 k1, .slice a1 n1 c1] 25)).alloc (Obj.cells #[.int .i64 k2, .slice a2 n2 c2] 25)) W) => specConsistent t1 t2 _ _ _ _ W (H1.out.below h) (H2.out.below h))
  have HC2 := hid (fun (W : World) (h : Below (((w1.alloc (Obj.cells #[.int .i64 k1, .slice a1 n1 c1] 25)).alloc (Obj.cells #[.int .i64 k2, .slice a2 n2 c2] 25))).heap.size ((w1.alloc (Obj.cells #[.int .i64 k1, .slice a1 n1 c1] 25)).alloc (Obj.cells #[.int .i64 k2, .slice a2 n2 c2] 25)) W) => implConsistent t2 t1 _ _ _ _ W (H2.out.below h) (H1.out.below h))
  have HC3 := hid (fun (W : World) (h : Below (((w1.alloc (Obj.cells #[.int .i64 k1, .slice a1 n1 c1] 25)).alloc (Obj.cells #[.int .i64 k2, .slice a2 n2 c2] 25))).heap.size ((w1.alloc (Obj.cells #[.int .i64 k1, .slice a1 n1 c1] 25)).alloc (Obj.cells #[.int .i64 k2, .slice a2 n2 c2] 25)) W) => implConsistent t1 t1 _ _ _ _ W (H1.out.below h) (H1.out.below h))
  rw [con_swap t1 t2] at HC2
  rw [con_self t1] at HC3
  have HV := hid (fun (W : World) (h : Below (((w1.alloc (Obj.cells #[.int .i64 k1, .slice a1 n1 c1] 25)).alloc (Obj.cells #[.int .i64 k2, .slice a2 n2 c2] 25))).heap.size ((w1.alloc (Obj.cells #[.int .i64 k1, .slice a1 n1 c1] 25)).alloc (Obj.cells #[.int .i64 k2, .slice a2 n2 c2] 25)) W) => implTypeValid_any t1 _ _ W (H1.out.below h))
  have HM := hid (fun (W : World) (h : Below (((w1.alloc (Obj.cells #[.int .i64 k1, .slice a1 n1 c1] 25)).alloc (Obj.cells #[.int .i64 k2, .slice a2 n2 c2] 25))).heap.size ((w1.alloc (Obj.cells #[.int .i64 k1, .slice a1 n1 c1] 25)).alloc (Obj.cells #[.int .i64 k2, .slice a2 n2 c2] 25)) W) => implMeetTypes t1 t2 _ _ _ _ W (H1.out.below h) (H2.out.below h) (by have := HSM.out.1; omega) (by have := HSM.out.2; omega))
  obtain ⟨x0, x1, x2, x3⟩ := box_cells2 (Below.refl (((w1.alloc (Obj.cells #[.int .i64 k1, .slice a1 n1 c1] 25)).alloc (Obj.cells #[.int .i64 k2, .slice a2 n2 c2] 25))).heap.size ((w1.alloc (Obj.cells #[.int .i64 k1, .slice a1 n1 c1] 25)).alloc (Obj.cells #[.int .i64 k2, .slice a2 n2 c2] 25)))
  have h0 := Below.refl (((w1.alloc (Obj.cells #[.int .i64 k1, .slice a1 n1 c1] 25)).alloc (Obj.cells #[.int .i64 k2, .slice a2 n2 c2] 25))).heap.size ((w1.alloc (Obj.cells #[.int .i64 k1, .slice a1 n1 c1] 25)).alloc (Obj.cells #[.int .i64 k2, .slice a2 n2 c2] 25))
  generalize consOf t1 t2 = r at *
  generalize vld t1 = q at *
  clear h1 h2 hb hal H1 H2
  go_wp2_with fail
  refine (HP.out _ h0).mono ?_
  rintro e w2 ⟨rfl, hb2⟩
  replace x0 := cell_keep x0 hb2
  replace x1 := cell_keep x1 hb2
  replace x2 := cell_keep x2 hb2
  replace x3 := cell_keep x3 hb2
  go_wp2_with fail
  refine (HM.out _ hb2).mono ?_
  rintro e w4 ⟨vm, fm, rfl, hatm, -, hb4⟩
  obtain ⟨km, nm, am, cm, rfl⟩ := hatm.agg
  have hb5 : Below w4.heap.size w4 (w4.alloc (Obj.cells #[.int .i64 km, .slice am nm cm] 25)) := (Below.refl _ _).alloc (Nat.le_refl _) _
  have hb45 := below_trans hb4 hb5
  have HBM := hid (below_trans hb2 hb45)
  replace x0 := cell_keep x0 hb45
  replace x1 := cell_keep x1 hb45
  replace x2 := cell_keep x2 hb45
  replace x3 := cell_keep x3 hb45
  clear hatm hb2 hb4 hb5 hb45 h0 HP HM HD
  cases r
  · cases q
    · go_wp2_with fail
      refine wp_region_held_drew (S := (fun w' => Below (w4.alloc (Obj.cells #[.int .i64 km, .slice am nm cm] 25)).heap.size (w4.alloc (Obj.cells #[.int .i64 km, .slice am nm cm] 25)) w' ∧ w'.cell? ⟨w1.heap.size, 0, none⟩ = some (.int .i64 k1) ∧ w'.cell? ⟨w1.heap.size, 1, none⟩ = some (.slice a1 n1 c1) ∧ w'.cell? ⟨w1.heap.size + 1, 0, none⟩ = some (.int .i64 k2) ∧ w'.cell? ⟨w1.heap.size + 1, 1, none⟩ = some (.slice a2 n2 c2))) (by kernel_rfl) ?_ (fun hS0 => ?_)
      · (refine (fun hB => ⟨hB, cell_keep x0 hB, cell_keep x1 hB, cell_keep x2 hB, cell_keep x3 hB⟩ : Below (w4.alloc (Obj.cells #[.int .i64 km, .slice am nm cm] 25)).heap.size (w4.alloc (Obj.cells #[.int .i64 km, .slice am nm cm] 25)) _ → _) ?_; exact below_drew _)
      refine regTake (i := 0) (v := ?vg1_0) rfl (by kernel_rfl) (by kernel_rfl) (by kernel_rfl) (fun _ _ _ h => h) (Or.inl ⟨by rfl, ?hyg1_0⟩) (by assumption) ?_
      case hyg1_0 => (intro w hSw; (try dsimp only at hSw); go_simp; (try with_reducible rfl))
      try simp only [Act.put, List.setIfInBounds_toArray, List.set_cons_zero, List.set_cons_succ]
      refine regTake (i := 1) (v := ?vg1_1) rfl (by kernel_rfl) (by kernel_rfl) (by kernel_rfl) (fun _ _ _ h => h) (Or.inl ⟨by rfl, ?hyg1_1⟩) (by assumption) ?_
      case hyg1_1 => (intro w hSw; (try dsimp only at hSw); go_simp; (try with_reducible rfl))
      try simp only [Act.put, List.setIfInBounds_toArray, List.set_cons_zero, List.set_cons_succ]
      refine regTake (i := 2) (v := ?vg1_2) rfl (by kernel_rfl) (by kernel_rfl) (by kernel_rfl) (fun _ _ _ h => h) (Or.inl ⟨by rfl, ?hyg1_2⟩) (by assumption) ?_
      case hyg1_2 => (intro w hSw; (try dsimp only at hSw); go_simp; (try with_reducible rfl))
      try simp only [Act.put, List.setIfInBounds_toArray, List.set_cons_zero, List.set_cons_succ]
      refine wpAnyH_ready (rs := [3]) (by kernel_rfl) (by simp) ?_
      refine regCons rfl (fun K hK => ?_)
      go_simp
      refine (HS.out _ (below_trans HBM.out (below_drew (w4.alloc (Obj.cells #[.int .i64 km, .slice am nm cm] 25))))).mono ?_
      rintro e yg1_0 ⟨rfl, hyg1_0⟩
      have hkg1_0 := below_trans (below_drew (w4.alloc (Obj.cells #[.int .i64 km, .slice am nm cm] 25))) hyg1_0
      refine hK.out _ _ ?_ (fun hS1 => ?_)
      · (refine (fun hB => ⟨hB, cell_keep x0 hB, cell_keep x1 hB, cell_keep x2 hB, cell_keep x3 hB⟩ : Below (w4.alloc (Obj.cells #[.int .i64 km, .slice am nm cm] 25)).heap.size (w4.alloc (Obj.cells #[.int .i64 km, .slice am nm cm] 25)) _ → _) ?_; exact hkg1_0)
      clear hK K hS0
      try simp only [Act.put, List.setIfInBounds_toArray, List.set_cons_zero, List.set_cons_succ]
      refine regTake (i := 4) (v := ?vg1_4) rfl (by kernel_rfl) (by kernel_rfl) (by kernel_rfl) (fun _ _ _ h => h) (Or.inl ⟨by rfl, ?hyg1_4⟩) (by assumption) ?_
      case hyg1_4 => (intro w hSw; (try dsimp only at hSw); go_simp; (try with_reducible rfl))
      try simp only [Act.put, List.setIfInBounds_toArray, List.set_cons_zero, List.set_cons_succ]
      refine regTake (i := 5) (v := ?vg1_5) rfl (by kernel_rfl) (by kernel_rfl) (by kernel_rfl) (fun _ _ _ h => h) (Or.inl ⟨by rfl, ?hyg1_5⟩) (by assumption) ?_
      case hyg1_5 => (intro w hSw; (try dsimp only at hSw); go_simp; (try with_reducible rfl))
      try simp only [Act.put, List.setIfInBounds_toArray, List.set_cons_zero, List.set_cons_succ]
      refine regTake (i := 6) (v := ?vg1_6) rfl (by kernel_rfl) (by kernel_rfl) (by kernel_rfl) (fun _ _ _ h => h) (Or.inl ⟨by rfl, ?hyg1_6⟩) (by assumption) ?_
      case hyg1_6 => (intro w hSw; (try dsimp only at hSw); go_simp; (try with_reducible rfl))
      try simp only [Act.put, List.setIfInBounds_toArray, List.set_cons_zero, List.set_cons_succ]
      refine regTake (i := 7) (v := ?vg1_7) rfl (by kernel_rfl) (by kernel_rfl) (by kernel_rfl) (fun _ _ _ h => h) (Or.inl ⟨by rfl, ?hyg1_7⟩) (by assumption) ?_
      case hyg1_7 => (intro w hSw; (try dsimp only at hSw); go_simp; (try with_reducible rfl))
      try simp only [Act.put, List.setIfInBounds_toArray, List.set_cons_zero, List.set_cons_succ]
      refine regTake (i := 8) (v := ?vg1_8) rfl (by kernel_rfl) (by kernel_rfl) (by kernel_rfl) (fun _ _ _ h => h) (Or.inl ⟨by rfl, ?hyg1_8⟩) (by assumption) ?_
      case hyg1_8 => (intro w hSw; (try dsimp only at hSw); go_simp; (try with_reducible rfl))
      try simp only [Act.put, List.setIfInBounds_toArray, List.set_cons_zero, List.set_cons_succ]
      refine wpAnyH_ready (rs := [9]) (by kernel_rfl) (by simp) ?_
      refine regCons rfl (fun K hK => ?_)
      go_simp
      refine (HC2.out _ (below_trans HBM.out (hkg1_0))).mono ?_
      rintro e yg1_1 ⟨rfl, hyg1_1⟩
      have hkg1_1 := below_trans (hkg1_0) hyg1_1
      refine hK.out _ _ ?_ (fun hS2 => ?_)
      · (refine (fun hB => ⟨hB, cell_keep x0 hB, cell_keep x1 hB, cell_keep x2 hB, cell_keep x3 hB⟩ : Below (w4.alloc (Obj.cells #[.int .i64 km, .slice am nm cm] 25)).heap.size (w4.alloc (Obj.cells #[.int .i64 km, .slice am nm cm] 25)) _ → _) ?_; exact hkg1_1)
      clear hK K hS1
      try simp only [Act.put, List.setIfInBounds_toArray, List.set_cons_zero, List.set_cons_succ]
      refine regTake (i := 10) (v := ?vg1_10) rfl (by kernel_rfl) (by kernel_rfl) (by kernel_rfl) (fun _ _ _ h => h) (Or.inl ⟨by rfl, ?hyg1_10⟩) (by assumption) ?_
      case hyg1_10 => (intro w hSw; (try dsimp only at hSw); go_simp; (try with_reducible rfl))
      try simp only [Act.put, List.setIfInBounds_toArray, List.set_cons_zero, List.set_cons_succ]
      refine regTake (i := 11) (v := .bool true) rfl (by kernel_rfl) (by kernel_rfl) (by kernel_rfl) (fun _ _ _ h => h) (Or.inl ⟨by rfl, ?hyg1_11⟩) (by assumption) ?_
      case hyg1_11 => (intro w hSw; (try dsimp only at hSw); go_simp; (try with_reducible rfl))
      try simp only [Act.put, List.setIfInBounds_toArray, List.set_cons_zero, List.set_cons_succ]
      refine regTake (i := 12) (v := ?vg1_12) rfl (by kernel_rfl) (by kernel_rfl) (by kernel_rfl) (fun _ _ _ h => h) (Or.inl ⟨by rfl, ?hyg1_12⟩) (by assumption) ?_
      case hyg1_12 => (intro w hSw; (try dsimp only at hSw); go_simp; (try with_reducible rfl))
      try simp only [Act.put, List.setIfInBounds_toArray, List.set_cons_zero, List.set_cons_succ]
      refine regTake (i := 13) (v := ?vg1_13) rfl (by kernel_rfl) (by kernel_rfl) (by kernel_rfl) (fun _ _ _ h => h) (Or.inl ⟨by rfl, ?hyg1_13⟩) (by assumption) ?_
      case hyg1_13 => (intro w hSw; (try dsimp only at hSw); go_simp; (try with_reducible rfl))
      try simp only [Act.put, List.setIfInBounds_toArray, List.set_cons_zero, List.set_cons_succ]
      refine regTake (i := 14) (v := ?vg1_14) rfl (by kernel_rfl) (by kernel_rfl) (by kernel_rfl) (fun _ _ _ h => h) (Or.inl ⟨by rfl, ?hyg1_14⟩) (by assumption) ?_
      case hyg1_14 => (intro w hSw; (try dsimp only at hSw); go_simp; (try with_reducible rfl))
      try simp only [Act.put, List.setIfInBounds_toArray, List.set_cons_zero, List.set_cons_succ]
      refine regTake (i := 15) (v := ?vg1_15) rfl (by kernel_rfl) (by kernel_rfl) (by kernel_rfl) (fun _ _ _ h => h) (Or.inl ⟨by rfl, ?hyg1_15⟩) (by assumption) ?_
      case hyg1_15 => (intro w hSw; (try dsimp only at hSw); go_simp; (try with_reducible rfl))
      try simp only [Act.put, List.setIfInBounds_toArray, List.set_cons_zero, List.set_cons_succ]
      refine regTake (i := 16) (v := .bool true) rfl (by kernel_rfl) (by kernel_rfl) (by kernel_rfl) (fun _ _ _ h => h) (Or.inl ⟨by rfl, ?hyg1_16⟩) (by assumption) ?_
      case hyg1_16 => (intro w hSw; (try dsimp only at hSw); go_simp; (try with_reducible rfl))
      try simp only [Act.put, List.setIfInBounds_toArray, List.set_cons_zero, List.set_cons_succ]
      refine regTake (i := 17) (v := ?vg1_17) rfl (by kernel_rfl) (by kernel_rfl) (by kernel_rfl) (fun _ _ _ h => h) (Or.inl ⟨by rfl, ?hyg1_17⟩) (by assumption) ?_
      case hyg1_17 => (intro w hSw; (try dsimp only at hSw); go_simp; (try with_reducible rfl))
      try simp only [Act.put, List.setIfInBounds_toArray, List.set_cons_zero, List.set_cons_succ]
      refine regTake (i := 18) (v := ?vg1_18) rfl (by kernel_rfl) (by kernel_rfl) (by kernel_rfl) (fun _ _ _ h => h) (Or.inl ⟨by rfl, ?hyg1_18⟩) (by assumption) ?_
      case hyg1_18 => (intro w hSw; (try dsimp only at hSw); go_simp; (try with_reducible rfl))
      try simp only [Act.put, List.setIfInBounds_toArray, List.set_cons_zero, List.set_cons_succ]
      refine regTake (i := 19) (v := ?vg1_19) rfl (by kernel_rfl) (by kernel_rfl) (by kernel_rfl) (fun _ _ _ h => h) (Or.inl ⟨by rfl, ?hyg1_19⟩) (by assumption) ?_
      case hyg1_19 => (intro w hSw; (try dsimp only at hSw); go_simp; (try with_reducible rfl))
      try simp only [Act.put, List.setIfInBounds_toArray, List.set_cons_zero, List.set_cons_succ]
      refine regTake (i := 21) (v := ?vg1_21) rfl (by kernel_rfl) (by kernel_rfl) (by kernel_rfl) (fun _ _ _ h => h) (Or.inl ⟨by rfl, ?hyg1_21⟩) (by assumption) ?_
      case hyg1_21 => (intro w hSw; (try dsimp only at hSw); go_simp; (try with_reducible rfl))
      try simp only [Act.put, List.setIfInBounds_toArray, List.set_cons_zero, List.set_cons_succ]
      refine wpAnyH_ready (rs := [20]) (by kernel_rfl) (by simp) ?_
      refine regCons rfl (fun K hK => ?_)
      go_simp
      refine (HC3.out _ (below_trans HBM.out (hkg1_1))).mono ?_
      rintro e yg1_2 ⟨rfl, hyg1_2⟩
      have hkg1_2 := below_trans (hkg1_1) hyg1_2
      refine hK.out _ _ ?_ (fun hS3 => ?_)
      · (refine (fun hB => ⟨hB, cell_keep x0 hB, cell_keep x1 hB, cell_keep x2 hB, cell_keep x3 hB⟩ : Below (w4.alloc (Obj.cells #[.int .i64 km, .slice am nm cm] 25)).heap.size (w4.alloc (Obj.cells #[.int .i64 km, .slice am nm cm] 25)) _ → _) ?_; exact hkg1_2)
      clear hK K hS2
      try simp only [Act.put, List.setIfInBounds_toArray, List.set_cons_zero, List.set_cons_succ]
      refine wpAnyH_ready (rs := [22]) (by kernel_rfl) (by simp) ?_
      refine regCons rfl (fun K hK => ?_)
      go_simp
      refine (HV.out _ (below_trans HBM.out (hkg1_2))).mono ?_
      rintro e yg1_3 ⟨rfl, hyg1_3⟩
      have hkg1_3 := below_trans (hkg1_2) hyg1_3
      refine hK.out _ _ ?_ (fun hS4 => ?_)
      · (refine (fun hB => ⟨hB, cell_keep x0 hB, cell_keep x1 hB, cell_keep x2 hB, cell_keep x3 hB⟩ : Below (w4.alloc (Obj.cells #[.int .i64 km, .slice am nm cm] 25)).heap.size (w4.alloc (Obj.cells #[.int .i64 km, .slice am nm cm] 25)) _ → _) ?_; exact hkg1_3)
      clear hK K hS3
      try simp only [Act.put, List.setIfInBounds_toArray, List.set_cons_zero, List.set_cons_succ]
      refine regTake (i := 23) (v := ?vg1_23) rfl (by kernel_rfl) (by kernel_rfl) (by kernel_rfl) (fun _ _ _ h => h) (Or.inl ⟨by rfl, ?hyg1_23⟩) (by assumption) ?_
      case hyg1_23 => (intro w hSw; (try dsimp only at hSw); go_simp; (try with_reducible rfl))
      try simp only [Act.put, List.setIfInBounds_toArray, List.set_cons_zero, List.set_cons_succ]
      refine regTake (i := 24) (v := .bool true) rfl (by kernel_rfl) (by kernel_rfl) (by kernel_rfl) (fun _ _ _ h => h) (Or.inl ⟨by rfl, ?hyg1_24⟩) (by assumption) ?_
      case hyg1_24 => (intro w hSw; (try dsimp only at hSw); go_simp; (try with_reducible rfl))
      try simp only [Act.put, List.setIfInBounds_toArray, List.set_cons_zero, List.set_cons_succ]
      refine regTake (i := 25) (v := ?vg1_25) rfl (by kernel_rfl) (by kernel_rfl) (by kernel_rfl) (fun _ _ _ h => h) (Or.inl ⟨by rfl, ?hyg1_25⟩) (by assumption) ?_
      case hyg1_25 => (intro w hSw; (try dsimp only at hSw); go_simp; (try with_reducible rfl))
      try simp only [Act.put, List.setIfInBounds_toArray, List.set_cons_zero, List.set_cons_succ]
      refine wpAnyH_done (by kernel_rfl) ?_ _
      go_wp2_with fail
      go_ret
      exact ⟨rfl, below_trans HBL.out (below_trans HBM.out hkg1_3)⟩
    · go_wp2_with fail
      refine wp_region_held_drew (S := (fun w' => Below (w4.alloc (Obj.cells #[.int .i64 km, .slice am nm cm] 25)).heap.size (w4.alloc (Obj.cells #[.int .i64 km, .slice am nm cm] 25)) w' ∧ w'.cell? ⟨w1.heap.size, 0, none⟩ = some (.int .i64 k1) ∧ w'.cell? ⟨w1.heap.size, 1, none⟩ = some (.slice a1 n1 c1) ∧ w'.cell? ⟨w1.heap.size + 1, 0, none⟩ = some (.int .i64 k2) ∧ w'.cell? ⟨w1.heap.size + 1, 1, none⟩ = some (.slice a2 n2 c2))) (by kernel_rfl) ?_ (fun hS0 => ?_)
      · (refine (fun hB => ⟨hB, cell_keep x0 hB, cell_keep x1 hB, cell_keep x2 hB, cell_keep x3 hB⟩ : Below (w4.alloc (Obj.cells #[.int .i64 km, .slice am nm cm] 25)).heap.size (w4.alloc (Obj.cells #[.int .i64 km, .slice am nm cm] 25)) _ → _) ?_; exact below_drew _)
      refine regTake (i := 0) (v := ?vg2_0) rfl (by kernel_rfl) (by kernel_rfl) (by kernel_rfl) (fun _ _ _ h => h) (Or.inl ⟨by rfl, ?hyg2_0⟩) (by assumption) ?_
      case hyg2_0 => (intro w hSw; (try dsimp only at hSw); go_simp; (try with_reducible rfl))
      try simp only [Act.put, List.setIfInBounds_toArray, List.set_cons_zero, List.set_cons_succ]
      refine regTake (i := 1) (v := ?vg2_1) rfl (by kernel_rfl) (by kernel_rfl) (by kernel_rfl) (fun _ _ _ h => h) (Or.inl ⟨by rfl, ?hyg2_1⟩) (by assumption) ?_
      case hyg2_1 => (intro w hSw; (try dsimp only at hSw); go_simp; (try with_reducible rfl))
      try simp only [Act.put, List.setIfInBounds_toArray, List.set_cons_zero, List.set_cons_succ]
      refine regTake (i := 2) (v := ?vg2_2) rfl (by kernel_rfl) (by kernel_rfl) (by kernel_rfl) (fun _ _ _ h => h) (Or.inl ⟨by rfl, ?hyg2_2⟩) (by assumption) ?_
      case hyg2_2 => (intro w hSw; (try dsimp only at hSw); go_simp; (try with_reducible rfl))
      try simp only [Act.put, List.setIfInBounds_toArray, List.set_cons_zero, List.set_cons_succ]
      refine wpAnyH_ready (rs := [3]) (by kernel_rfl) (by simp) ?_
      refine regCons rfl (fun K hK => ?_)
      go_simp
      refine (HS.out _ (below_trans HBM.out (below_drew (w4.alloc (Obj.cells #[.int .i64 km, .slice am nm cm] 25))))).mono ?_
      rintro e yg2_0 ⟨rfl, hyg2_0⟩
      have hkg2_0 := below_trans (below_drew (w4.alloc (Obj.cells #[.int .i64 km, .slice am nm cm] 25))) hyg2_0
      refine hK.out _ _ ?_ (fun hS1 => ?_)
      · (refine (fun hB => ⟨hB, cell_keep x0 hB, cell_keep x1 hB, cell_keep x2 hB, cell_keep x3 hB⟩ : Below (w4.alloc (Obj.cells #[.int .i64 km, .slice am nm cm] 25)).heap.size (w4.alloc (Obj.cells #[.int .i64 km, .slice am nm cm] 25)) _ → _) ?_; exact hkg2_0)
      clear hK K hS0
      try simp only [Act.put, List.setIfInBounds_toArray, List.set_cons_zero, List.set_cons_succ]
      refine regTake (i := 4) (v := ?vg2_4) rfl (by kernel_rfl) (by kernel_rfl) (by kernel_rfl) (fun _ _ _ h => h) (Or.inl ⟨by rfl, ?hyg2_4⟩) (by assumption) ?_
      case hyg2_4 => (intro w hSw; (try dsimp only at hSw); go_simp; (try with_reducible rfl))
      try simp only [Act.put, List.setIfInBounds_toArray, List.set_cons_zero, List.set_cons_succ]
      refine regTake (i := 5) (v := ?vg2_5) rfl (by kernel_rfl) (by kernel_rfl) (by kernel_rfl) (fun _ _ _ h => h) (Or.inl ⟨by rfl, ?hyg2_5⟩) (by assumption) ?_
      case hyg2_5 => (intro w hSw; (try dsimp only at hSw); go_simp; (try with_reducible rfl))
      try simp only [Act.put, List.setIfInBounds_toArray, List.set_cons_zero, List.set_cons_succ]
      refine regTake (i := 6) (v := ?vg2_6) rfl (by kernel_rfl) (by kernel_rfl) (by kernel_rfl) (fun _ _ _ h => h) (Or.inl ⟨by rfl, ?hyg2_6⟩) (by assumption) ?_
      case hyg2_6 => (intro w hSw; (try dsimp only at hSw); go_simp; (try with_reducible rfl))
      try simp only [Act.put, List.setIfInBounds_toArray, List.set_cons_zero, List.set_cons_succ]
      refine regTake (i := 7) (v := ?vg2_7) rfl (by kernel_rfl) (by kernel_rfl) (by kernel_rfl) (fun _ _ _ h => h) (Or.inl ⟨by rfl, ?hyg2_7⟩) (by assumption) ?_
      case hyg2_7 => (intro w hSw; (try dsimp only at hSw); go_simp; (try with_reducible rfl))
      try simp only [Act.put, List.setIfInBounds_toArray, List.set_cons_zero, List.set_cons_succ]
      refine regTake (i := 8) (v := ?vg2_8) rfl (by kernel_rfl) (by kernel_rfl) (by kernel_rfl) (fun _ _ _ h => h) (Or.inl ⟨by rfl, ?hyg2_8⟩) (by assumption) ?_
      case hyg2_8 => (intro w hSw; (try dsimp only at hSw); go_simp; (try with_reducible rfl))
      try simp only [Act.put, List.setIfInBounds_toArray, List.set_cons_zero, List.set_cons_succ]
      refine wpAnyH_ready (rs := [9]) (by kernel_rfl) (by simp) ?_
      refine regCons rfl (fun K hK => ?_)
      go_simp
      refine (HC2.out _ (below_trans HBM.out (hkg2_0))).mono ?_
      rintro e yg2_1 ⟨rfl, hyg2_1⟩
      have hkg2_1 := below_trans (hkg2_0) hyg2_1
      refine hK.out _ _ ?_ (fun hS2 => ?_)
      · (refine (fun hB => ⟨hB, cell_keep x0 hB, cell_keep x1 hB, cell_keep x2 hB, cell_keep x3 hB⟩ : Below (w4.alloc (Obj.cells #[.int .i64 km, .slice am nm cm] 25)).heap.size (w4.alloc (Obj.cells #[.int .i64 km, .slice am nm cm] 25)) _ → _) ?_; exact hkg2_1)
      clear hK K hS1
      try simp only [Act.put, List.setIfInBounds_toArray, List.set_cons_zero, List.set_cons_succ]
      refine regTake (i := 10) (v := ?vg2_10) rfl (by kernel_rfl) (by kernel_rfl) (by kernel_rfl) (fun _ _ _ h => h) (Or.inl ⟨by rfl, ?hyg2_10⟩) (by assumption) ?_
      case hyg2_10 => (intro w hSw; (try dsimp only at hSw); go_simp; (try with_reducible rfl))
      try simp only [Act.put, List.setIfInBounds_toArray, List.set_cons_zero, List.set_cons_succ]
      refine regTake (i := 11) (v := .bool true) rfl (by kernel_rfl) (by kernel_rfl) (by kernel_rfl) (fun _ _ _ h => h) (Or.inl ⟨by rfl, ?hyg2_11⟩) (by assumption) ?_
      case hyg2_11 => (intro w hSw; (try dsimp only at hSw); go_simp; (try with_reducible rfl))
      try simp only [Act.put, List.setIfInBounds_toArray, List.set_cons_zero, List.set_cons_succ]
      refine regTake (i := 12) (v := ?vg2_12) rfl (by kernel_rfl) (by kernel_rfl) (by kernel_rfl) (fun _ _ _ h => h) (Or.inl ⟨by rfl, ?hyg2_12⟩) (by assumption) ?_
      case hyg2_12 => (intro w hSw; (try dsimp only at hSw); go_simp; (try with_reducible rfl))
      try simp only [Act.put, List.setIfInBounds_toArray, List.set_cons_zero, List.set_cons_succ]
      refine regTake (i := 13) (v := ?vg2_13) rfl (by kernel_rfl) (by kernel_rfl) (by kernel_rfl) (fun _ _ _ h => h) (Or.inl ⟨by rfl, ?hyg2_13⟩) (by assumption) ?_
      case hyg2_13 => (intro w hSw; (try dsimp only at hSw); go_simp; (try with_reducible rfl))
      try simp only [Act.put, List.setIfInBounds_toArray, List.set_cons_zero, List.set_cons_succ]
      refine regTake (i := 14) (v := ?vg2_14) rfl (by kernel_rfl) (by kernel_rfl) (by kernel_rfl) (fun _ _ _ h => h) (Or.inl ⟨by rfl, ?hyg2_14⟩) (by assumption) ?_
      case hyg2_14 => (intro w hSw; (try dsimp only at hSw); go_simp; (try with_reducible rfl))
      try simp only [Act.put, List.setIfInBounds_toArray, List.set_cons_zero, List.set_cons_succ]
      refine regTake (i := 15) (v := ?vg2_15) rfl (by kernel_rfl) (by kernel_rfl) (by kernel_rfl) (fun _ _ _ h => h) (Or.inl ⟨by rfl, ?hyg2_15⟩) (by assumption) ?_
      case hyg2_15 => (intro w hSw; (try dsimp only at hSw); go_simp; (try with_reducible rfl))
      try simp only [Act.put, List.setIfInBounds_toArray, List.set_cons_zero, List.set_cons_succ]
      refine regTake (i := 16) (v := .bool true) rfl (by kernel_rfl) (by kernel_rfl) (by kernel_rfl) (fun _ _ _ h => h) (Or.inl ⟨by rfl, ?hyg2_16⟩) (by assumption) ?_
      case hyg2_16 => (intro w hSw; (try dsimp only at hSw); go_simp; (try with_reducible rfl))
      try simp only [Act.put, List.setIfInBounds_toArray, List.set_cons_zero, List.set_cons_succ]
      refine regTake (i := 17) (v := ?vg2_17) rfl (by kernel_rfl) (by kernel_rfl) (by kernel_rfl) (fun _ _ _ h => h) (Or.inl ⟨by rfl, ?hyg2_17⟩) (by assumption) ?_
      case hyg2_17 => (intro w hSw; (try dsimp only at hSw); go_simp; (try with_reducible rfl))
      try simp only [Act.put, List.setIfInBounds_toArray, List.set_cons_zero, List.set_cons_succ]
      refine regTake (i := 18) (v := ?vg2_18) rfl (by kernel_rfl) (by kernel_rfl) (by kernel_rfl) (fun _ _ _ h => h) (Or.inl ⟨by rfl, ?hyg2_18⟩) (by assumption) ?_
      case hyg2_18 => (intro w hSw; (try dsimp only at hSw); go_simp; (try with_reducible rfl))
      try simp only [Act.put, List.setIfInBounds_toArray, List.set_cons_zero, List.set_cons_succ]
      refine regTake (i := 19) (v := ?vg2_19) rfl (by kernel_rfl) (by kernel_rfl) (by kernel_rfl) (fun _ _ _ h => h) (Or.inl ⟨by rfl, ?hyg2_19⟩) (by assumption) ?_
      case hyg2_19 => (intro w hSw; (try dsimp only at hSw); go_simp; (try with_reducible rfl))
      try simp only [Act.put, List.setIfInBounds_toArray, List.set_cons_zero, List.set_cons_succ]
      refine regTake (i := 21) (v := ?vg2_21) rfl (by kernel_rfl) (by kernel_rfl) (by kernel_rfl) (fun _ _ _ h => h) (Or.inl ⟨by rfl, ?hyg2_21⟩) (by assumption) ?_
      case hyg2_21 => (intro w hSw; (try dsimp only at hSw); go_simp; (try with_reducible rfl))
      try simp only [Act.put, List.setIfInBounds_toArray, List.set_cons_zero, List.set_cons_succ]
      refine wpAnyH_ready (rs := [20]) (by kernel_rfl) (by simp) ?_
      refine regCons rfl (fun K hK => ?_)
      go_simp
      refine (HC3.out _ (below_trans HBM.out (hkg2_1))).mono ?_
      rintro e yg2_2 ⟨rfl, hyg2_2⟩
      have hkg2_2 := below_trans (hkg2_1) hyg2_2
      refine hK.out _ _ ?_ (fun hS3 => ?_)
      · (refine (fun hB => ⟨hB, cell_keep x0 hB, cell_keep x1 hB, cell_keep x2 hB, cell_keep x3 hB⟩ : Below (w4.alloc (Obj.cells #[.int .i64 km, .slice am nm cm] 25)).heap.size (w4.alloc (Obj.cells #[.int .i64 km, .slice am nm cm] 25)) _ → _) ?_; exact hkg2_2)
      clear hK K hS2
      try simp only [Act.put, List.setIfInBounds_toArray, List.set_cons_zero, List.set_cons_succ]
      refine wpAnyH_ready (rs := [22]) (by kernel_rfl) (by simp) ?_
      refine regCons rfl (fun K hK => ?_)
      go_simp
      refine (HV.out _ (below_trans HBM.out (hkg2_2))).mono ?_
      rintro e yg2_3 ⟨rfl, hyg2_3⟩
      have hkg2_3 := below_trans (hkg2_2) hyg2_3
      refine hK.out _ _ ?_ (fun hS4 => ?_)
      · (refine (fun hB => ⟨hB, cell_keep x0 hB, cell_keep x1 hB, cell_keep x2 hB, cell_keep x3 hB⟩ : Below (w4.alloc (Obj.cells #[.int .i64 km, .slice am nm cm] 25)).heap.size (w4.alloc (Obj.cells #[.int .i64 km, .slice am nm cm] 25)) _ → _) ?_; exact hkg2_3)
      clear hK K hS3
      try simp only [Act.put, List.setIfInBounds_toArray, List.set_cons_zero, List.set_cons_succ]
      refine regTake (i := 23) (v := ?vg2_23) rfl (by kernel_rfl) (by kernel_rfl) (by kernel_rfl) (fun _ _ _ h => h) (Or.inl ⟨by rfl, ?hyg2_23⟩) (by assumption) ?_
      case hyg2_23 => (intro w hSw; (try dsimp only at hSw); go_simp; (try with_reducible rfl))
      try simp only [Act.put, List.setIfInBounds_toArray, List.set_cons_zero, List.set_cons_succ]
      refine regTake (i := 24) (v := .bool true) rfl (by kernel_rfl) (by kernel_rfl) (by kernel_rfl) (fun _ _ _ h => h) (Or.inl ⟨by rfl, ?hyg2_24⟩) (by assumption) ?_
      case hyg2_24 => (intro w hSw; (try dsimp only at hSw); go_simp; (try with_reducible rfl))
      try simp only [Act.put, List.setIfInBounds_toArray, List.set_cons_zero, List.set_cons_succ]
      refine regTake (i := 25) (v := ?vg2_25) rfl (by kernel_rfl) (by kernel_rfl) (by kernel_rfl) (fun _ _ _ h => h) (Or.inl ⟨by rfl, ?hyg2_25⟩) (by assumption) ?_
      case hyg2_25 => (intro w hSw; (try dsimp only at hSw); go_simp; (try with_reducible rfl))
      try simp only [Act.put, List.setIfInBounds_toArray, List.set_cons_zero, List.set_cons_succ]
      refine wpAnyH_done (by kernel_rfl) ?_ _
      go_wp2_with fail
      go_ret
      exact ⟨rfl, below_trans HBL.out (below_trans HBM.out hkg2_3)⟩
  · cases q
    · go_wp2_with fail
      refine wp_region_held_drew (S := (fun w' => Below (w4.alloc (Obj.cells #[.int .i64 km, .slice am nm cm] 25)).heap.size (w4.alloc (Obj.cells #[.int .i64 km, .slice am nm cm] 25)) w' ∧ w'.cell? ⟨w1.heap.size, 0, none⟩ = some (.int .i64 k1) ∧ w'.cell? ⟨w1.heap.size, 1, none⟩ = some (.slice a1 n1 c1) ∧ w'.cell? ⟨w1.heap.size + 1, 0, none⟩ = some (.int .i64 k2) ∧ w'.cell? ⟨w1.heap.size + 1, 1, none⟩ = some (.slice a2 n2 c2))) (by kernel_rfl) ?_ (fun hS0 => ?_)
      · (refine (fun hB => ⟨hB, cell_keep x0 hB, cell_keep x1 hB, cell_keep x2 hB, cell_keep x3 hB⟩ : Below (w4.alloc (Obj.cells #[.int .i64 km, .slice am nm cm] 25)).heap.size (w4.alloc (Obj.cells #[.int .i64 km, .slice am nm cm] 25)) _ → _) ?_; exact below_drew _)
      refine regTake (i := 0) (v := ?vg3_0) rfl (by kernel_rfl) (by kernel_rfl) (by kernel_rfl) (fun _ _ _ h => h) (Or.inl ⟨by rfl, ?hyg3_0⟩) (by assumption) ?_
      case hyg3_0 => (intro w hSw; (try dsimp only at hSw); go_simp; (try with_reducible rfl))
      try simp only [Act.put, List.setIfInBounds_toArray, List.set_cons_zero, List.set_cons_succ]
      refine regTake (i := 1) (v := ?vg3_1) rfl (by kernel_rfl) (by kernel_rfl) (by kernel_rfl) (fun _ _ _ h => h) (Or.inl ⟨by rfl, ?hyg3_1⟩) (by assumption) ?_
      case hyg3_1 => (intro w hSw; (try dsimp only at hSw); go_simp; (try with_reducible rfl))
      try simp only [Act.put, List.setIfInBounds_toArray, List.set_cons_zero, List.set_cons_succ]
      refine regTake (i := 2) (v := ?vg3_2) rfl (by kernel_rfl) (by kernel_rfl) (by kernel_rfl) (fun _ _ _ h => h) (Or.inl ⟨by rfl, ?hyg3_2⟩) (by assumption) ?_
      case hyg3_2 => (intro w hSw; (try dsimp only at hSw); go_simp; (try with_reducible rfl))
      try simp only [Act.put, List.setIfInBounds_toArray, List.set_cons_zero, List.set_cons_succ]
      refine wpAnyH_ready (rs := [3]) (by kernel_rfl) (by simp) ?_
      refine regCons rfl (fun K hK => ?_)
      go_simp
      refine (HS.out _ (below_trans HBM.out (below_drew (w4.alloc (Obj.cells #[.int .i64 km, .slice am nm cm] 25))))).mono ?_
      rintro e yg3_0 ⟨rfl, hyg3_0⟩
      have hkg3_0 := below_trans (below_drew (w4.alloc (Obj.cells #[.int .i64 km, .slice am nm cm] 25))) hyg3_0
      refine hK.out _ _ ?_ (fun hS1 => ?_)
      · (refine (fun hB => ⟨hB, cell_keep x0 hB, cell_keep x1 hB, cell_keep x2 hB, cell_keep x3 hB⟩ : Below (w4.alloc (Obj.cells #[.int .i64 km, .slice am nm cm] 25)).heap.size (w4.alloc (Obj.cells #[.int .i64 km, .slice am nm cm] 25)) _ → _) ?_; exact hkg3_0)
      clear hK K hS0
      try simp only [Act.put, List.setIfInBounds_toArray, List.set_cons_zero, List.set_cons_succ]
      refine regTake (i := 4) (v := ?vg3_4) rfl (by kernel_rfl) (by kernel_rfl) (by kernel_rfl) (fun _ _ _ h => h) (Or.inl ⟨by rfl, ?hyg3_4⟩) (by assumption) ?_
      case hyg3_4 => (intro w hSw; (try dsimp only at hSw); go_simp; (try with_reducible rfl))
      try simp only [Act.put, List.setIfInBounds_toArray, List.set_cons_zero, List.set_cons_succ]
      refine regTake (i := 5) (v := ?vg3_5) rfl (by kernel_rfl) (by kernel_rfl) (by kernel_rfl) (fun _ _ _ h => h) (Or.inl ⟨by rfl, ?hyg3_5⟩) (by assumption) ?_
      case hyg3_5 => (intro w hSw; (try dsimp only at hSw); go_simp; (try with_reducible rfl))
      try simp only [Act.put, List.setIfInBounds_toArray, List.set_cons_zero, List.set_cons_succ]
      refine regTake (i := 6) (v := ?vg3_6) rfl (by kernel_rfl) (by kernel_rfl) (by kernel_rfl) (fun _ _ _ h => h) (Or.inl ⟨by rfl, ?hyg3_6⟩) (by assumption) ?_
      case hyg3_6 => (intro w hSw; (try dsimp only at hSw); go_simp; (try with_reducible rfl))
      try simp only [Act.put, List.setIfInBounds_toArray, List.set_cons_zero, List.set_cons_succ]
      refine regTake (i := 7) (v := ?vg3_7) rfl (by kernel_rfl) (by kernel_rfl) (by kernel_rfl) (fun _ _ _ h => h) (Or.inl ⟨by rfl, ?hyg3_7⟩) (by assumption) ?_
      case hyg3_7 => (intro w hSw; (try dsimp only at hSw); go_simp; (try with_reducible rfl))
      try simp only [Act.put, List.setIfInBounds_toArray, List.set_cons_zero, List.set_cons_succ]
      refine regTake (i := 8) (v := ?vg3_8) rfl (by kernel_rfl) (by kernel_rfl) (by kernel_rfl) (fun _ _ _ h => h) (Or.inl ⟨by rfl, ?hyg3_8⟩) (by assumption) ?_
      case hyg3_8 => (intro w hSw; (try dsimp only at hSw); go_simp; (try with_reducible rfl))
      try simp only [Act.put, List.setIfInBounds_toArray, List.set_cons_zero, List.set_cons_succ]
      refine wpAnyH_ready (rs := [9]) (by kernel_rfl) (by simp) ?_
      refine regCons rfl (fun K hK => ?_)
      go_simp
      refine (HC2.out _ (below_trans HBM.out (hkg3_0))).mono ?_
      rintro e yg3_1 ⟨rfl, hyg3_1⟩
      have hkg3_1 := below_trans (hkg3_0) hyg3_1
      refine hK.out _ _ ?_ (fun hS2 => ?_)
      · (refine (fun hB => ⟨hB, cell_keep x0 hB, cell_keep x1 hB, cell_keep x2 hB, cell_keep x3 hB⟩ : Below (w4.alloc (Obj.cells #[.int .i64 km, .slice am nm cm] 25)).heap.size (w4.alloc (Obj.cells #[.int .i64 km, .slice am nm cm] 25)) _ → _) ?_; exact hkg3_1)
      clear hK K hS1
      try simp only [Act.put, List.setIfInBounds_toArray, List.set_cons_zero, List.set_cons_succ]
      refine regTake (i := 10) (v := ?vg3_10) rfl (by kernel_rfl) (by kernel_rfl) (by kernel_rfl) (fun _ _ _ h => h) (Or.inl ⟨by rfl, ?hyg3_10⟩) (by assumption) ?_
      case hyg3_10 => (intro w hSw; (try dsimp only at hSw); go_simp; (try with_reducible rfl))
      try simp only [Act.put, List.setIfInBounds_toArray, List.set_cons_zero, List.set_cons_succ]
      refine regTake (i := 11) (v := .bool true) rfl (by kernel_rfl) (by kernel_rfl) (by kernel_rfl) (fun _ _ _ h => h) (Or.inl ⟨by rfl, ?hyg3_11⟩) (by assumption) ?_
      case hyg3_11 => (intro w hSw; (try dsimp only at hSw); go_simp; (try with_reducible rfl))
      try simp only [Act.put, List.setIfInBounds_toArray, List.set_cons_zero, List.set_cons_succ]
      refine regTake (i := 12) (v := ?vg3_12) rfl (by kernel_rfl) (by kernel_rfl) (by kernel_rfl) (fun _ _ _ h => h) (Or.inl ⟨by rfl, ?hyg3_12⟩) (by assumption) ?_
      case hyg3_12 => (intro w hSw; (try dsimp only at hSw); go_simp; (try with_reducible rfl))
      try simp only [Act.put, List.setIfInBounds_toArray, List.set_cons_zero, List.set_cons_succ]
      refine regTake (i := 13) (v := ?vg3_13) rfl (by kernel_rfl) (by kernel_rfl) (by kernel_rfl) (fun _ _ _ h => h) (Or.inl ⟨by rfl, ?hyg3_13⟩) (by assumption) ?_
      case hyg3_13 => (intro w hSw; (try dsimp only at hSw); go_simp; (try with_reducible rfl))
      try simp only [Act.put, List.setIfInBounds_toArray, List.set_cons_zero, List.set_cons_succ]
      refine regTake (i := 14) (v := ?vg3_14) rfl (by kernel_rfl) (by kernel_rfl) (by kernel_rfl) (fun _ _ _ h => h) (Or.inl ⟨by rfl, ?hyg3_14⟩) (by assumption) ?_
      case hyg3_14 => (intro w hSw; (try dsimp only at hSw); go_simp; (try with_reducible rfl))
      try simp only [Act.put, List.setIfInBounds_toArray, List.set_cons_zero, List.set_cons_succ]
      refine regTake (i := 15) (v := ?vg3_15) rfl (by kernel_rfl) (by kernel_rfl) (by kernel_rfl) (fun _ _ _ h => h) (Or.inl ⟨by rfl, ?hyg3_15⟩) (by assumption) ?_
      case hyg3_15 => (intro w hSw; (try dsimp only at hSw); go_simp; (try with_reducible rfl))
      try simp only [Act.put, List.setIfInBounds_toArray, List.set_cons_zero, List.set_cons_succ]
      refine regTake (i := 16) (v := .bool true) rfl (by kernel_rfl) (by kernel_rfl) (by kernel_rfl) (fun _ _ _ h => h) (Or.inl ⟨by rfl, ?hyg3_16⟩) (by assumption) ?_
      case hyg3_16 => (intro w hSw; (try dsimp only at hSw); go_simp; (try with_reducible rfl))
      try simp only [Act.put, List.setIfInBounds_toArray, List.set_cons_zero, List.set_cons_succ]
      refine regTake (i := 17) (v := ?vg3_17) rfl (by kernel_rfl) (by kernel_rfl) (by kernel_rfl) (fun _ _ _ h => h) (Or.inl ⟨by rfl, ?hyg3_17⟩) (by assumption) ?_
      case hyg3_17 => (intro w hSw; (try dsimp only at hSw); go_simp; (try with_reducible rfl))
      try simp only [Act.put, List.setIfInBounds_toArray, List.set_cons_zero, List.set_cons_succ]
      refine regTake (i := 18) (v := ?vg3_18) rfl (by kernel_rfl) (by kernel_rfl) (by kernel_rfl) (fun _ _ _ h => h) (Or.inl ⟨by rfl, ?hyg3_18⟩) (by assumption) ?_
      case hyg3_18 => (intro w hSw; (try dsimp only at hSw); go_simp; (try with_reducible rfl))
      try simp only [Act.put, List.setIfInBounds_toArray, List.set_cons_zero, List.set_cons_succ]
      refine regTake (i := 19) (v := ?vg3_19) rfl (by kernel_rfl) (by kernel_rfl) (by kernel_rfl) (fun _ _ _ h => h) (Or.inl ⟨by rfl, ?hyg3_19⟩) (by assumption) ?_
      case hyg3_19 => (intro w hSw; (try dsimp only at hSw); go_simp; (try with_reducible rfl))
      try simp only [Act.put, List.setIfInBounds_toArray, List.set_cons_zero, List.set_cons_succ]
      refine regTake (i := 21) (v := ?vg3_21) rfl (by kernel_rfl) (by kernel_rfl) (by kernel_rfl) (fun _ _ _ h => h) (Or.inl ⟨by rfl, ?hyg3_21⟩) (by assumption) ?_
      case hyg3_21 => (intro w hSw; (try dsimp only at hSw); go_simp; (try with_reducible rfl))
      try simp only [Act.put, List.setIfInBounds_toArray, List.set_cons_zero, List.set_cons_succ]
      refine wpAnyH_ready (rs := [20]) (by kernel_rfl) (by simp) ?_
      refine regCons rfl (fun K hK => ?_)
      go_simp
      refine (HC3.out _ (below_trans HBM.out (hkg3_1))).mono ?_
      rintro e yg3_2 ⟨rfl, hyg3_2⟩
      have hkg3_2 := below_trans (hkg3_1) hyg3_2
      refine hK.out _ _ ?_ (fun hS3 => ?_)
      · (refine (fun hB => ⟨hB, cell_keep x0 hB, cell_keep x1 hB, cell_keep x2 hB, cell_keep x3 hB⟩ : Below (w4.alloc (Obj.cells #[.int .i64 km, .slice am nm cm] 25)).heap.size (w4.alloc (Obj.cells #[.int .i64 km, .slice am nm cm] 25)) _ → _) ?_; exact hkg3_2)
      clear hK K hS2
      try simp only [Act.put, List.setIfInBounds_toArray, List.set_cons_zero, List.set_cons_succ]
      refine wpAnyH_ready (rs := [22]) (by kernel_rfl) (by simp) ?_
      refine regCons rfl (fun K hK => ?_)
      go_simp
      refine (HV.out _ (below_trans HBM.out (hkg3_2))).mono ?_
      rintro e yg3_3 ⟨rfl, hyg3_3⟩
      have hkg3_3 := below_trans (hkg3_2) hyg3_3
      refine hK.out _ _ ?_ (fun hS4 => ?_)
      · (refine (fun hB => ⟨hB, cell_keep x0 hB, cell_keep x1 hB, cell_keep x2 hB, cell_keep x3 hB⟩ : Below (w4.alloc (Obj.cells #[.int .i64 km, .slice am nm cm] 25)).heap.size (w4.alloc (Obj.cells #[.int .i64 km, .slice am nm cm] 25)) _ → _) ?_; exact hkg3_3)
      clear hK K hS3
      try simp only [Act.put, List.setIfInBounds_toArray, List.set_cons_zero, List.set_cons_succ]
      refine regTake (i := 23) (v := ?vg3_23) rfl (by kernel_rfl) (by kernel_rfl) (by kernel_rfl) (fun _ _ _ h => h) (Or.inl ⟨by rfl, ?hyg3_23⟩) (by assumption) ?_
      case hyg3_23 => (intro w hSw; (try dsimp only at hSw); go_simp; (try with_reducible rfl))
      try simp only [Act.put, List.setIfInBounds_toArray, List.set_cons_zero, List.set_cons_succ]
      refine regTake (i := 24) (v := .bool true) rfl (by kernel_rfl) (by kernel_rfl) (by kernel_rfl) (fun _ _ _ h => h) (Or.inl ⟨by rfl, ?hyg3_24⟩) (by assumption) ?_
      case hyg3_24 => (intro w hSw; (try dsimp only at hSw); go_simp; (try with_reducible rfl))
      try simp only [Act.put, List.setIfInBounds_toArray, List.set_cons_zero, List.set_cons_succ]
      refine regTake (i := 25) (v := ?vg3_25) rfl (by kernel_rfl) (by kernel_rfl) (by kernel_rfl) (fun _ _ _ h => h) (Or.inl ⟨by rfl, ?hyg3_25⟩) (by assumption) ?_
      case hyg3_25 => (intro w hSw; (try dsimp only at hSw); go_simp; (try with_reducible rfl))
      try simp only [Act.put, List.setIfInBounds_toArray, List.set_cons_zero, List.set_cons_succ]
      refine wpAnyH_done (by kernel_rfl) ?_ _
      go_wp2_with fail
      go_ret
      exact ⟨rfl, below_trans HBL.out (below_trans HBM.out hkg3_3)⟩
    · go_wp2_with fail
      refine wp_region_held_drew (S := (fun w' => Below (w4.alloc (Obj.cells #[.int .i64 km, .slice am nm cm] 25)).heap.size (w4.alloc (Obj.cells #[.int .i64 km, .slice am nm cm] 25)) w' ∧ w'.cell? ⟨w1.heap.size, 0, none⟩ = some (.int .i64 k1) ∧ w'.cell? ⟨w1.heap.size, 1, none⟩ = some (.slice a1 n1 c1) ∧ w'.cell? ⟨w1.heap.size + 1, 0, none⟩ = some (.int .i64 k2) ∧ w'.cell? ⟨w1.heap.size + 1, 1, none⟩ = some (.slice a2 n2 c2))) (by kernel_rfl) ?_ (fun hS0 => ?_)
      · (refine (fun hB => ⟨hB, cell_keep x0 hB, cell_keep x1 hB, cell_keep x2 hB, cell_keep x3 hB⟩ : Below (w4.alloc (Obj.cells #[.int .i64 km, .slice am nm cm] 25)).heap.size (w4.alloc (Obj.cells #[.int .i64 km, .slice am nm cm] 25)) _ → _) ?_; exact below_drew _)
      refine regTake (i := 0) (v := ?vg4_0) rfl (by kernel_rfl) (by kernel_rfl) (by kernel_rfl) (fun _ _ _ h => h) (Or.inl ⟨by rfl, ?hyg4_0⟩) (by assumption) ?_
      case hyg4_0 => (intro w hSw; (try dsimp only at hSw); go_simp; (try with_reducible rfl))
      try simp only [Act.put, List.setIfInBounds_toArray, List.set_cons_zero, List.set_cons_succ]
      refine regTake (i := 1) (v := ?vg4_1) rfl (by kernel_rfl) (by kernel_rfl) (by kernel_rfl) (fun _ _ _ h => h) (Or.inl ⟨by rfl, ?hyg4_1⟩) (by assumption) ?_
      case hyg4_1 => (intro w hSw; (try dsimp only at hSw); go_simp; (try with_reducible rfl))
      try simp only [Act.put, List.setIfInBounds_toArray, List.set_cons_zero, List.set_cons_succ]
      refine regTake (i := 2) (v := ?vg4_2) rfl (by kernel_rfl) (by kernel_rfl) (by kernel_rfl) (fun _ _ _ h => h) (Or.inl ⟨by rfl, ?hyg4_2⟩) (by assumption) ?_
      case hyg4_2 => (intro w hSw; (try dsimp only at hSw); go_simp; (try with_reducible rfl))
      try simp only [Act.put, List.setIfInBounds_toArray, List.set_cons_zero, List.set_cons_succ]
      refine wpAnyH_ready (rs := [3]) (by kernel_rfl) (by simp) ?_
      refine regCons rfl (fun K hK => ?_)
      go_simp
      refine (HS.out _ (below_trans HBM.out (below_drew (w4.alloc (Obj.cells #[.int .i64 km, .slice am nm cm] 25))))).mono ?_
      rintro e yg4_0 ⟨rfl, hyg4_0⟩
      have hkg4_0 := below_trans (below_drew (w4.alloc (Obj.cells #[.int .i64 km, .slice am nm cm] 25))) hyg4_0
      refine hK.out _ _ ?_ (fun hS1 => ?_)
      · (refine (fun hB => ⟨hB, cell_keep x0 hB, cell_keep x1 hB, cell_keep x2 hB, cell_keep x3 hB⟩ : Below (w4.alloc (Obj.cells #[.int .i64 km, .slice am nm cm] 25)).heap.size (w4.alloc (Obj.cells #[.int .i64 km, .slice am nm cm] 25)) _ → _) ?_; exact hkg4_0)
      clear hK K hS0
      try simp only [Act.put, List.setIfInBounds_toArray, List.set_cons_zero, List.set_cons_succ]
      refine regTake (i := 4) (v := ?vg4_4) rfl (by kernel_rfl) (by kernel_rfl) (by kernel_rfl) (fun _ _ _ h => h) (Or.inl ⟨by rfl, ?hyg4_4⟩) (by assumption) ?_
      case hyg4_4 => (intro w hSw; (try dsimp only at hSw); go_simp; (try with_reducible rfl))
      try simp only [Act.put, List.setIfInBounds_toArray, List.set_cons_zero, List.set_cons_succ]
      refine regTake (i := 5) (v := ?vg4_5) rfl (by kernel_rfl) (by kernel_rfl) (by kernel_rfl) (fun _ _ _ h => h) (Or.inl ⟨by rfl, ?hyg4_5⟩) (by assumption) ?_
      case hyg4_5 => (intro w hSw; (try dsimp only at hSw); go_simp; (try with_reducible rfl))
      try simp only [Act.put, List.setIfInBounds_toArray, List.set_cons_zero, List.set_cons_succ]
      refine regTake (i := 6) (v := ?vg4_6) rfl (by kernel_rfl) (by kernel_rfl) (by kernel_rfl) (fun _ _ _ h => h) (Or.inl ⟨by rfl, ?hyg4_6⟩) (by assumption) ?_
      case hyg4_6 => (intro w hSw; (try dsimp only at hSw); go_simp; (try with_reducible rfl))
      try simp only [Act.put, List.setIfInBounds_toArray, List.set_cons_zero, List.set_cons_succ]
      refine regTake (i := 7) (v := ?vg4_7) rfl (by kernel_rfl) (by kernel_rfl) (by kernel_rfl) (fun _ _ _ h => h) (Or.inl ⟨by rfl, ?hyg4_7⟩) (by assumption) ?_
      case hyg4_7 => (intro w hSw; (try dsimp only at hSw); go_simp; (try with_reducible rfl))
      try simp only [Act.put, List.setIfInBounds_toArray, List.set_cons_zero, List.set_cons_succ]
      refine regTake (i := 8) (v := ?vg4_8) rfl (by kernel_rfl) (by kernel_rfl) (by kernel_rfl) (fun _ _ _ h => h) (Or.inl ⟨by rfl, ?hyg4_8⟩) (by assumption) ?_
      case hyg4_8 => (intro w hSw; (try dsimp only at hSw); go_simp; (try with_reducible rfl))
      try simp only [Act.put, List.setIfInBounds_toArray, List.set_cons_zero, List.set_cons_succ]
      refine wpAnyH_ready (rs := [9]) (by kernel_rfl) (by simp) ?_
      refine regCons rfl (fun K hK => ?_)
      go_simp
      refine (HC2.out _ (below_trans HBM.out (hkg4_0))).mono ?_
      rintro e yg4_1 ⟨rfl, hyg4_1⟩
      have hkg4_1 := below_trans (hkg4_0) hyg4_1
      refine hK.out _ _ ?_ (fun hS2 => ?_)
      · (refine (fun hB => ⟨hB, cell_keep x0 hB, cell_keep x1 hB, cell_keep x2 hB, cell_keep x3 hB⟩ : Below (w4.alloc (Obj.cells #[.int .i64 km, .slice am nm cm] 25)).heap.size (w4.alloc (Obj.cells #[.int .i64 km, .slice am nm cm] 25)) _ → _) ?_; exact hkg4_1)
      clear hK K hS1
      try simp only [Act.put, List.setIfInBounds_toArray, List.set_cons_zero, List.set_cons_succ]
      refine regTake (i := 10) (v := ?vg4_10) rfl (by kernel_rfl) (by kernel_rfl) (by kernel_rfl) (fun _ _ _ h => h) (Or.inl ⟨by rfl, ?hyg4_10⟩) (by assumption) ?_
      case hyg4_10 => (intro w hSw; (try dsimp only at hSw); go_simp; (try with_reducible rfl))
      try simp only [Act.put, List.setIfInBounds_toArray, List.set_cons_zero, List.set_cons_succ]
      refine regTake (i := 11) (v := .bool true) rfl (by kernel_rfl) (by kernel_rfl) (by kernel_rfl) (fun _ _ _ h => h) (Or.inl ⟨by rfl, ?hyg4_11⟩) (by assumption) ?_
      case hyg4_11 => (intro w hSw; (try dsimp only at hSw); go_simp; (try with_reducible rfl))
      try simp only [Act.put, List.setIfInBounds_toArray, List.set_cons_zero, List.set_cons_succ]
      refine regTake (i := 12) (v := ?vg4_12) rfl (by kernel_rfl) (by kernel_rfl) (by kernel_rfl) (fun _ _ _ h => h) (Or.inl ⟨by rfl, ?hyg4_12⟩) (by assumption) ?_
      case hyg4_12 => (intro w hSw; (try dsimp only at hSw); go_simp; (try with_reducible rfl))
      try simp only [Act.put, List.setIfInBounds_toArray, List.set_cons_zero, List.set_cons_succ]
      refine regTake (i := 13) (v := ?vg4_13) rfl (by kernel_rfl) (by kernel_rfl) (by kernel_rfl) (fun _ _ _ h => h) (Or.inl ⟨by rfl, ?hyg4_13⟩) (by assumption) ?_
      case hyg4_13 => (intro w hSw; (try dsimp only at hSw); go_simp; (try with_reducible rfl))
      try simp only [Act.put, List.setIfInBounds_toArray, List.set_cons_zero, List.set_cons_succ]
      refine regTake (i := 14) (v := ?vg4_14) rfl (by kernel_rfl) (by kernel_rfl) (by kernel_rfl) (fun _ _ _ h => h) (Or.inl ⟨by rfl, ?hyg4_14⟩) (by assumption) ?_
      case hyg4_14 => (intro w hSw; (try dsimp only at hSw); go_simp; (try with_reducible rfl))
      try simp only [Act.put, List.setIfInBounds_toArray, List.set_cons_zero, List.set_cons_succ]
      refine regTake (i := 15) (v := ?vg4_15) rfl (by kernel_rfl) (by kernel_rfl) (by kernel_rfl) (fun _ _ _ h => h) (Or.inl ⟨by rfl, ?hyg4_15⟩) (by assumption) ?_
      case hyg4_15 => (intro w hSw; (try dsimp only at hSw); go_simp; (try with_reducible rfl))
      try simp only [Act.put, List.setIfInBounds_toArray, List.set_cons_zero, List.set_cons_succ]
      refine regTake (i := 16) (v := .bool true) rfl (by kernel_rfl) (by kernel_rfl) (by kernel_rfl) (fun _ _ _ h => h) (Or.inl ⟨by rfl, ?hyg4_16⟩) (by assumption) ?_
      case hyg4_16 => (intro w hSw; (try dsimp only at hSw); go_simp; (try with_reducible rfl))
      try simp only [Act.put, List.setIfInBounds_toArray, List.set_cons_zero, List.set_cons_succ]
      refine regTake (i := 17) (v := ?vg4_17) rfl (by kernel_rfl) (by kernel_rfl) (by kernel_rfl) (fun _ _ _ h => h) (Or.inl ⟨by rfl, ?hyg4_17⟩) (by assumption) ?_
      case hyg4_17 => (intro w hSw; (try dsimp only at hSw); go_simp; (try with_reducible rfl))
      try simp only [Act.put, List.setIfInBounds_toArray, List.set_cons_zero, List.set_cons_succ]
      refine regTake (i := 18) (v := ?vg4_18) rfl (by kernel_rfl) (by kernel_rfl) (by kernel_rfl) (fun _ _ _ h => h) (Or.inl ⟨by rfl, ?hyg4_18⟩) (by assumption) ?_
      case hyg4_18 => (intro w hSw; (try dsimp only at hSw); go_simp; (try with_reducible rfl))
      try simp only [Act.put, List.setIfInBounds_toArray, List.set_cons_zero, List.set_cons_succ]
      refine regTake (i := 19) (v := ?vg4_19) rfl (by kernel_rfl) (by kernel_rfl) (by kernel_rfl) (fun _ _ _ h => h) (Or.inl ⟨by rfl, ?hyg4_19⟩) (by assumption) ?_
      case hyg4_19 => (intro w hSw; (try dsimp only at hSw); go_simp; (try with_reducible rfl))
      try simp only [Act.put, List.setIfInBounds_toArray, List.set_cons_zero, List.set_cons_succ]
      refine regTake (i := 21) (v := ?vg4_21) rfl (by kernel_rfl) (by kernel_rfl) (by kernel_rfl) (fun _ _ _ h => h) (Or.inl ⟨by rfl, ?hyg4_21⟩) (by assumption) ?_
      case hyg4_21 => (intro w hSw; (try dsimp only at hSw); go_simp; (try with_reducible rfl))
      try simp only [Act.put, List.setIfInBounds_toArray, List.set_cons_zero, List.set_cons_succ]
      refine wpAnyH_ready (rs := [20]) (by kernel_rfl) (by simp) ?_
      refine regCons rfl (fun K hK => ?_)
      go_simp
      refine (HC3.out _ (below_trans HBM.out (hkg4_1))).mono ?_
      rintro e yg4_2 ⟨rfl, hyg4_2⟩
      have hkg4_2 := below_trans (hkg4_1) hyg4_2
      refine hK.out _ _ ?_ (fun hS3 => ?_)
      · (refine (fun hB => ⟨hB, cell_keep x0 hB, cell_keep x1 hB, cell_keep x2 hB, cell_keep x3 hB⟩ : Below (w4.alloc (Obj.cells #[.int .i64 km, .slice am nm cm] 25)).heap.size (w4.alloc (Obj.cells #[.int .i64 km, .slice am nm cm] 25)) _ → _) ?_; exact hkg4_2)
      clear hK K hS2
      try simp only [Act.put, List.setIfInBounds_toArray, List.set_cons_zero, List.set_cons_succ]
      refine wpAnyH_ready (rs := [22]) (by kernel_rfl) (by simp) ?_
      refine regCons rfl (fun K hK => ?_)
      go_simp
      refine (HV.out _ (below_trans HBM.out (hkg4_2))).mono ?_
      rintro e yg4_3 ⟨rfl, hyg4_3⟩
      have hkg4_3 := below_trans (hkg4_2) hyg4_3
      refine hK.out _ _ ?_ (fun hS4 => ?_)
      · (refine (fun hB => ⟨hB, cell_keep x0 hB, cell_keep x1 hB, cell_keep x2 hB, cell_keep x3 hB⟩ : Below (w4.alloc (Obj.cells #[.int .i64 km, .slice am nm cm] 25)).heap.size (w4.alloc (Obj.cells #[.int .i64 km, .slice am nm cm] 25)) _ → _) ?_; exact hkg4_3)
      clear hK K hS3
      try simp only [Act.put, List.setIfInBounds_toArray, List.set_cons_zero, List.set_cons_succ]
      refine regTake (i := 23) (v := ?vg4_23) rfl (by kernel_rfl) (by kernel_rfl) (by kernel_rfl) (fun _ _ _ h => h) (Or.inl ⟨by rfl, ?hyg4_23⟩) (by assumption) ?_
      case hyg4_23 => (intro w hSw; (try dsimp only at hSw); go_simp; (try with_reducible rfl))
      try simp only [Act.put, List.setIfInBounds_toArray, List.set_cons_zero, List.set_cons_succ]
      refine regTake (i := 24) (v := .bool true) rfl (by kernel_rfl) (by kernel_rfl) (by kernel_rfl) (fun _ _ _ h => h) (Or.inl ⟨by rfl, ?hyg4_24⟩) (by assumption) ?_
      case hyg4_24 => (intro w hSw; (try dsimp only at hSw); go_simp; (try with_reducible rfl))
      try simp only [Act.put, List.setIfInBounds_toArray, List.set_cons_zero, List.set_cons_succ]
      refine regTake (i := 25) (v := ?vg4_25) rfl (by kernel_rfl) (by kernel_rfl) (by kernel_rfl) (fun _ _ _ h => h) (Or.inl ⟨by rfl, ?hyg4_25⟩) (by assumption) ?_
      case hyg4_25 => (intro w hSw; (try dsimp only at hSw); go_simp; (try with_reducible rfl))
      try simp only [Act.put, List.setIfInBounds_toArray, List.set_cons_zero, List.set_cons_succ]
      refine wpAnyH_done (by kernel_rfl) ?_ _
      go_wp2_with fail
      go_ret
      exact ⟨rfl, below_trans HBL.out (below_trans HBM.out hkg4_3)⟩
end Go.Proofs.Ytjcbdfnjlboadaa
