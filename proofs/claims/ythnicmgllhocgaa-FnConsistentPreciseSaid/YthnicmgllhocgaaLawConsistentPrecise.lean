/- The law on ConsistentPrecise: it returns true and writes nothing that was there. -/
import Derived.Test.YthnicmgllhocgaaDr8
import Derived.Test.YthnicmgllhocgaaDrP
import Derived.Test.YthnicmgllhocgaaBlB
import Derived.Test.YthnicmgllhocgaaRel
import Derived.Test.YthnicmgllhocgaaReg
import Derived.Deep.RegionHeld3
namespace Go.Proofs.Ythnicmgllhocgaa
open Go.RowKit

theorem conprec_pure (a b c x : Ty) (hp : precOf a b = true) : (consOf a x = true → consOf b x = true) ∧ (precOf b c = true → consOf a c = true) := by
  simp only [precOf, consOf, Bool.and_eq_true] at *
  obtain ⟨⟨ha, hb⟩, h⟩ := hp
  exact ⟨fun h2 => ⟨⟨hb, h2.1.2⟩, cons_mono 4 a b x ha hb h2.1.2 h h2.2⟩, fun h2 => ⟨⟨ha, h2.1.2⟩, prec_cons 4 a c ha h2.1.2 (prec_trans 4 a b c ha hb h2.1.2 h h2.2)⟩⟩

theorem three9 {w wr : World} {o1 o2 o3 : Obj} (h : Below (((w.alloc o1).alloc o2).alloc o3).heap.size (((w.alloc o1).alloc o2).alloc o3) wr) : wr.heap[w.heap.size]? = some o1 ∧ wr.heap[w.heap.size + 1]? = some o2 ∧ wr.heap[w.heap.size + 1 + 1]? = some o3 := by
  obtain ⟨h1, h2⟩ := two9 (below_trans ((Below.refl ((w.alloc o1).alloc o2).heap.size ((w.alloc o1).alloc o2)).alloc (Nat.le_refl _) o3) h)
  have hs : ((w.alloc o1).alloc o2).heap.size = w.heap.size + 1 + 1 := by simp
  refine ⟨h1, h2, (h.block _ (by simp)).trans ?_⟩
  rw [← hs]
  exact alloc_new _ _

set_option maxRecDepth 100000 in
set_option maxHeartbeats 8000000 in
theorem lawConsistentPrecise (a0 : Option Addr) (n0 cap0 : Nat) (a9 : Option Addr) (n9 cap9 : Nat) (w : World) (hB : BytA w a0 n0) (hn : n0 ≤ cap0) (hm : cap0 ≤ maxLen) (hB9 : BytA w a9 n9) (hn9 : n9 ≤ cap9) (hm9 : cap9 ≤ maxLen) :
    Calls Try.prog 3 #[.slice a0 n0 cap0, .slice a9 n9 cap9] w fun e w' => e = .returned (.bool true) ∧ Below w.heap.size w w' := by
  by_cases hl : (n0 : Int) > 1048576
  · clear hB hB9
    go_enter Try.func3, Try.ntmps3
    go_wp2_with fail
    go_ret
    exact ⟨rfl, Below.refl _ _⟩
  by_cases hl9 : (n9 : Int) > 1048576
  · clear hB hB9
    go_enter Try.func3, Try.ntmps3
    go_wp2_with fail
    go_ret
    exact ⟨rfl, Below.refl _ _⟩
  have HD := hid (drawChain_any a0 n0 cap0 w hB hn hm)
  have HD9 := hid (fun (W : World) (h : Below w.heap.size w W) => drawCon_any a9 n9 cap9 W (hB9.below h) hn9 hm9)
  clear hB hB9
  go_enter Try.func3, Try.ntmps3
  go_wp2_with fail
  refine HD.out.mono ?_
  rintro e w1 ⟨t1, t2, t3, v1, v2, v3, f1, f2, f3, rfl, h1, h2, h3, hb⟩
  obtain ⟨k1, n1, a1, c1, rfl⟩ := h1.agg
  obtain ⟨k2, n2, a2, c2, rfl⟩ := h2.agg
  obtain ⟨k3, n3, a3, c3, rfl⟩ := h3.agg
  have hal : Below w1.heap.size w1 (((w1.alloc (Obj.cells #[.int .i64 k1, .slice a1 n1 c1] 25)).alloc (Obj.cells #[.int .i64 k2, .slice a2 n2 c2] 25)).alloc (Obj.cells #[.int .i64 k3, .slice a3 n3 c3] 25)) := (((Below.refl _ _).alloc (Nat.le_refl _) _).alloc (by simp) _).alloc (by simp; omega) _
  have HB1 := hid (below_trans hb hal)
  have HA1 := hid (And.intro (h1.below hal) (And.intro (h2.below hal) (h3.below hal)))
  have HX := hid (three9 (Below.refl ((((w1.alloc (Obj.cells #[.int .i64 k1, .slice a1 n1 c1] 25)).alloc (Obj.cells #[.int .i64 k2, .slice a2 n2 c2] 25)).alloc (Obj.cells #[.int .i64 k3, .slice a3 n3 c3] 25))).heap.size (((w1.alloc (Obj.cells #[.int .i64 k1, .slice a1 n1 c1] 25)).alloc (Obj.cells #[.int .i64 k2, .slice a2 n2 c2] 25)).alloc (Obj.cells #[.int .i64 k3, .slice a3 n3 c3] 25))))
  clear h1 h2 h3 hb hal
  go_wp2_with fail
  refine (HD9.out _ HB1.out).mono ?_
  rintro e w2 ⟨t4, t5, v4, v5, f4, f5, rfl, -, h4, h5, -, -, hb⟩
  obtain ⟨k4, n4, a4, c4, rfl⟩ := h4.agg
  obtain ⟨k5, n5, a5, c5, rfl⟩ := h5.agg
  have hal : Below w2.heap.size w2 ((w2.alloc (Obj.cells #[.int .i64 k4, .slice a4 n4 c4] 25)).alloc (Obj.cells #[.int .i64 k5, .slice a5 n5 c5] 25)) := ((Below.refl _ _).alloc (Nat.le_refl _) _).alloc (by simp) _
  have hbb := below_trans hb hal
  have HBL := hid (below_trans HB1.out hbb)
  have H1 := hid (HA1.out.1.below hbb)
  have H2 := hid (HA1.out.2.1.below hbb)
  have H3 := hid (HA1.out.2.2.below hbb)
  have H4 := hid (h4.below hal)
  have H5 := hid (h5.below hal)
  obtain ⟨e1, e2, e3⟩ := HX.out
  replace e1 := (hbb.block _ (lt_of_block e1)).trans e1
  replace e2 := (hbb.block _ (lt_of_block e2)).trans e2
  replace e3 := (hbb.block _ (lt_of_block e3)).trans e3
  have x0 : (((w2.alloc (Obj.cells #[.int .i64 k4, .slice a4 n4 c4] 25)).alloc (Obj.cells #[.int .i64 k5, .slice a5 n5 c5] 25))).cell? ⟨w1.heap.size, 0, none⟩ = some (.int .i64 k1) := by rw [cell_of_block e1]; rfl
  have x1 : (((w2.alloc (Obj.cells #[.int .i64 k4, .slice a4 n4 c4] 25)).alloc (Obj.cells #[.int .i64 k5, .slice a5 n5 c5] 25))).cell? ⟨w1.heap.size, 1, none⟩ = some (.slice a1 n1 c1) := by rw [cell_of_block e1]; rfl
  have x2 : (((w2.alloc (Obj.cells #[.int .i64 k4, .slice a4 n4 c4] 25)).alloc (Obj.cells #[.int .i64 k5, .slice a5 n5 c5] 25))).cell? ⟨w1.heap.size + 1, 0, none⟩ = some (.int .i64 k2) := by rw [cell_of_block e2]; rfl
  have x3 : (((w2.alloc (Obj.cells #[.int .i64 k4, .slice a4 n4 c4] 25)).alloc (Obj.cells #[.int .i64 k5, .slice a5 n5 c5] 25))).cell? ⟨w1.heap.size + 1, 1, none⟩ = some (.slice a2 n2 c2) := by rw [cell_of_block e2]; rfl
  have x4 : (((w2.alloc (Obj.cells #[.int .i64 k4, .slice a4 n4 c4] 25)).alloc (Obj.cells #[.int .i64 k5, .slice a5 n5 c5] 25))).cell? ⟨w1.heap.size + 1 + 1, 0, none⟩ = some (.int .i64 k3) := by rw [cell_of_block e3]; rfl
  have x5 : (((w2.alloc (Obj.cells #[.int .i64 k4, .slice a4 n4 c4] 25)).alloc (Obj.cells #[.int .i64 k5, .slice a5 n5 c5] 25))).cell? ⟨w1.heap.size + 1 + 1, 1, none⟩ = some (.slice a3 n3 c3) := by rw [cell_of_block e3]; rfl
  obtain ⟨x6, x7, x8, x9⟩ := box_cells2 (Below.refl (((w2.alloc (Obj.cells #[.int .i64 k4, .slice a4 n4 c4] 25)).alloc (Obj.cells #[.int .i64 k5, .slice a5 n5 c5] 25))).heap.size ((w2.alloc (Obj.cells #[.int .i64 k4, .slice a4 n4 c4] 25)).alloc (Obj.cells #[.int .i64 k5, .slice a5 n5 c5] 25)))
  have h0 := Below.refl (((w2.alloc (Obj.cells #[.int .i64 k4, .slice a4 n4 c4] 25)).alloc (Obj.cells #[.int .i64 k5, .slice a5 n5 c5] 25))).heap.size ((w2.alloc (Obj.cells #[.int .i64 k4, .slice a4 n4 c4] 25)).alloc (Obj.cells #[.int .i64 k5, .slice a5 n5 c5] 25))
  have HXI := hid (fun (W : World) (h : Below (((w2.alloc (Obj.cells #[.int .i64 k4, .slice a4 n4 c4] 25)).alloc (Obj.cells #[.int .i64 k5, .slice a5 n5 c5] 25))).heap.size ((w2.alloc (Obj.cells #[.int .i64 k4, .slice a4 n4 c4] 25)).alloc (Obj.cells #[.int .i64 k5, .slice a5 n5 c5] 25)) W) => implConsistent t4 t5 _ _ _ _ W (H4.out.below h) (H5.out.below h))
  have HXS := hid (fun (W : World) (h : Below (((w2.alloc (Obj.cells #[.int .i64 k4, .slice a4 n4 c4] 25)).alloc (Obj.cells #[.int .i64 k5, .slice a5 n5 c5] 25))).heap.size ((w2.alloc (Obj.cells #[.int .i64 k4, .slice a4 n4 c4] 25)).alloc (Obj.cells #[.int .i64 k5, .slice a5 n5 c5] 25)) W) => specConsistent t4 t5 _ _ _ _ W (H4.out.below h) (H5.out.below h))
  have HP := hid (fun (W : World) (h : Below (((w2.alloc (Obj.cells #[.int .i64 k4, .slice a4 n4 c4] 25)).alloc (Obj.cells #[.int .i64 k5, .slice a5 n5 c5] 25))).heap.size ((w2.alloc (Obj.cells #[.int .i64 k4, .slice a4 n4 c4] 25)).alloc (Obj.cells #[.int .i64 k5, .slice a5 n5 c5] 25)) W) => implPrecise t1 t2 _ _ _ _ W (H1.out.below h) (H2.out.below h))
  have HQ1 := hid (fun (W : World) (h : Below (((w2.alloc (Obj.cells #[.int .i64 k4, .slice a4 n4 c4] 25)).alloc (Obj.cells #[.int .i64 k5, .slice a5 n5 c5] 25))).heap.size ((w2.alloc (Obj.cells #[.int .i64 k4, .slice a4 n4 c4] 25)).alloc (Obj.cells #[.int .i64 k5, .slice a5 n5 c5] 25)) W) => implConsistent t1 t4 _ _ _ _ W (H1.out.below h) (H4.out.below h))
  have HQ2 := hid (fun (W : World) (h : Below (((w2.alloc (Obj.cells #[.int .i64 k4, .slice a4 n4 c4] 25)).alloc (Obj.cells #[.int .i64 k5, .slice a5 n5 c5] 25))).heap.size ((w2.alloc (Obj.cells #[.int .i64 k4, .slice a4 n4 c4] 25)).alloc (Obj.cells #[.int .i64 k5, .slice a5 n5 c5] 25)) W) => implConsistent t2 t4 _ _ _ _ W (H2.out.below h) (H4.out.below h))
  have HQ3 := hid (fun (W : World) (h : Below (((w2.alloc (Obj.cells #[.int .i64 k4, .slice a4 n4 c4] 25)).alloc (Obj.cells #[.int .i64 k5, .slice a5 n5 c5] 25))).heap.size ((w2.alloc (Obj.cells #[.int .i64 k4, .slice a4 n4 c4] 25)).alloc (Obj.cells #[.int .i64 k5, .slice a5 n5 c5] 25)) W) => implPrecise t2 t3 _ _ _ _ W (H2.out.below h) (H3.out.below h))
  have HQ4 := hid (fun (W : World) (h : Below (((w2.alloc (Obj.cells #[.int .i64 k4, .slice a4 n4 c4] 25)).alloc (Obj.cells #[.int .i64 k5, .slice a5 n5 c5] 25))).heap.size ((w2.alloc (Obj.cells #[.int .i64 k4, .slice a4 n4 c4] 25)).alloc (Obj.cells #[.int .i64 k5, .slice a5 n5 c5] 25)) W) => implConsistent t1 t3 _ _ _ _ W (H1.out.below h) (H3.out.below h))
  have HT1 := hid (fun hp => (conprec_pure t1 t2 t3 t4 hp).1)
  have HT2 := hid (fun hp => (conprec_pure t1 t2 t3 t4 hp).2)
  generalize consOf t4 t5 = r at *
  generalize precOf t1 t2 = p at *
  generalize consOf t1 t4 = q1 at *
  generalize consOf t2 t4 = q2 at *
  generalize precOf t2 t3 = q3 at *
  generalize consOf t1 t3 = q4 at *
  clear h4 h5 hb hal hbb H1 H2 H3 H4 H5 HX e1 e2 e3
  cases r
  · cases p
    · go_wp2_with fail
      refine wp_region_held_drew (S := (fun w' => Below (((w2.alloc (Obj.cells #[.int .i64 k4, .slice a4 n4 c4] 25)).alloc (Obj.cells #[.int .i64 k5, .slice a5 n5 c5] 25))).heap.size (((w2.alloc (Obj.cells #[.int .i64 k4, .slice a4 n4 c4] 25)).alloc (Obj.cells #[.int .i64 k5, .slice a5 n5 c5] 25))) w' ∧ w'.cell? ⟨w1.heap.size, 0, none⟩ = some (.int .i64 k1) ∧ w'.cell? ⟨w1.heap.size, 1, none⟩ = some (.slice a1 n1 c1) ∧ w'.cell? ⟨w1.heap.size + 1, 0, none⟩ = some (.int .i64 k2) ∧ w'.cell? ⟨w1.heap.size + 1, 1, none⟩ = some (.slice a2 n2 c2) ∧ w'.cell? ⟨w1.heap.size + 1 + 1, 0, none⟩ = some (.int .i64 k3) ∧ w'.cell? ⟨w1.heap.size + 1 + 1, 1, none⟩ = some (.slice a3 n3 c3) ∧ w'.cell? ⟨w2.heap.size, 0, none⟩ = some (.int .i64 k4) ∧ w'.cell? ⟨w2.heap.size, 1, none⟩ = some (.slice a4 n4 c4) ∧ w'.cell? ⟨w2.heap.size + 1, 0, none⟩ = some (.int .i64 k5) ∧ w'.cell? ⟨w2.heap.size + 1, 1, none⟩ = some (.slice a5 n5 c5))) (by kernel_rfl) ?_ (fun hS0 => ?_)
      · (refine (fun hB => ⟨hB, cell_keep x0 hB, cell_keep x1 hB, cell_keep x2 hB, cell_keep x3 hB, cell_keep x4 hB, cell_keep x5 hB, cell_keep x6 hB, cell_keep x7 hB, cell_keep x8 hB, cell_keep x9 hB⟩ : Below (((w2.alloc (Obj.cells #[.int .i64 k4, .slice a4 n4 c4] 25)).alloc (Obj.cells #[.int .i64 k5, .slice a5 n5 c5] 25))).heap.size (((w2.alloc (Obj.cells #[.int .i64 k4, .slice a4 n4 c4] 25)).alloc (Obj.cells #[.int .i64 k5, .slice a5 n5 c5] 25))) _ → _) ?_; exact below_drew _)
      refine regTake (i := 0) (v := ?vg1_0) rfl (by kernel_rfl) (by kernel_rfl) (by kernel_rfl) (fun _ _ _ h => h) (Or.inl ⟨by rfl, ?hyg1_0⟩) (by assumption) ?_
      case hyg1_0 => (intro w hSw; (try dsimp only at hSw); go_simp; (try with_reducible rfl))
      try simp only [Act.put, List.setIfInBounds_toArray, List.set_cons_zero, List.set_cons_succ]
      refine regTake (i := 1) (v := ?vg1_1) rfl (by kernel_rfl) (by kernel_rfl) (by kernel_rfl) (fun _ _ _ h => h) (Or.inl ⟨by rfl, ?hyg1_1⟩) (by assumption) ?_
      case hyg1_1 => (intro w hSw; (try dsimp only at hSw); go_simp; (try with_reducible rfl))
      try simp only [Act.put, List.setIfInBounds_toArray, List.set_cons_zero, List.set_cons_succ]
      refine regTake (i := 3) (v := ?vg1_3) rfl (by kernel_rfl) (by kernel_rfl) (by kernel_rfl) (fun _ _ _ h => h) (Or.inl ⟨by rfl, ?hyg1_3⟩) (by assumption) ?_
      case hyg1_3 => (intro w hSw; (try dsimp only at hSw); go_simp; (try with_reducible rfl))
      try simp only [Act.put, List.setIfInBounds_toArray, List.set_cons_zero, List.set_cons_succ]
      refine regTake (i := 4) (v := ?vg1_4) rfl (by kernel_rfl) (by kernel_rfl) (by kernel_rfl) (fun _ _ _ h => h) (Or.inl ⟨by rfl, ?hyg1_4⟩) (by assumption) ?_
      case hyg1_4 => (intro w hSw; (try dsimp only at hSw); go_simp; (try with_reducible rfl))
      try simp only [Act.put, List.setIfInBounds_toArray, List.set_cons_zero, List.set_cons_succ]
      refine wpAnyH_ready (rs := [2]) (by kernel_rfl) (by simp) ?_
      refine regCons rfl (fun K hK => ?_)
      go_simp
      refine (HXI.out _ (below_trans h0 (below_drew (((w2.alloc (Obj.cells #[.int .i64 k4, .slice a4 n4 c4] 25)).alloc (Obj.cells #[.int .i64 k5, .slice a5 n5 c5] 25)))))).mono ?_
      rintro e yg1_0 ⟨rfl, hyg1_0⟩
      have hkg1_0 := below_trans (below_drew (((w2.alloc (Obj.cells #[.int .i64 k4, .slice a4 n4 c4] 25)).alloc (Obj.cells #[.int .i64 k5, .slice a5 n5 c5] 25)))) hyg1_0
      refine hK.out _ _ ?_ (fun hS1 => ?_)
      · (refine (fun hB => ⟨hB, cell_keep x0 hB, cell_keep x1 hB, cell_keep x2 hB, cell_keep x3 hB, cell_keep x4 hB, cell_keep x5 hB, cell_keep x6 hB, cell_keep x7 hB, cell_keep x8 hB, cell_keep x9 hB⟩ : Below (((w2.alloc (Obj.cells #[.int .i64 k4, .slice a4 n4 c4] 25)).alloc (Obj.cells #[.int .i64 k5, .slice a5 n5 c5] 25))).heap.size (((w2.alloc (Obj.cells #[.int .i64 k4, .slice a4 n4 c4] 25)).alloc (Obj.cells #[.int .i64 k5, .slice a5 n5 c5] 25))) _ → _) ?_; exact hkg1_0)
      clear hK K hS0
      try simp only [Act.put, List.setIfInBounds_toArray, List.set_cons_zero, List.set_cons_succ]
      refine wpAnyH_ready (rs := [5]) (by kernel_rfl) (by simp) ?_
      refine regCons rfl (fun K hK => ?_)
      go_simp
      refine (HXS.out _ (below_trans h0 (hkg1_0))).mono ?_
      rintro e yg1_1 ⟨rfl, hyg1_1⟩
      have hkg1_1 := below_trans (hkg1_0) hyg1_1
      refine hK.out _ _ ?_ (fun hS2 => ?_)
      · (refine (fun hB => ⟨hB, cell_keep x0 hB, cell_keep x1 hB, cell_keep x2 hB, cell_keep x3 hB, cell_keep x4 hB, cell_keep x5 hB, cell_keep x6 hB, cell_keep x7 hB, cell_keep x8 hB, cell_keep x9 hB⟩ : Below (((w2.alloc (Obj.cells #[.int .i64 k4, .slice a4 n4 c4] 25)).alloc (Obj.cells #[.int .i64 k5, .slice a5 n5 c5] 25))).heap.size (((w2.alloc (Obj.cells #[.int .i64 k4, .slice a4 n4 c4] 25)).alloc (Obj.cells #[.int .i64 k5, .slice a5 n5 c5] 25))) _ → _) ?_; exact hkg1_1)
      clear hK K hS1
      try simp only [Act.put, List.setIfInBounds_toArray, List.set_cons_zero, List.set_cons_succ]
      refine regTake (i := 6) (v := ?vg1_6) rfl (by kernel_rfl) (by kernel_rfl) (by kernel_rfl) (fun _ _ _ h => h) (Or.inl ⟨by rfl, ?hyg1_6⟩) (by assumption) ?_
      case hyg1_6 => (intro w hSw; (try dsimp only at hSw); go_simp; (try with_reducible rfl))
      try simp only [Act.put, List.setIfInBounds_toArray, List.set_cons_zero, List.set_cons_succ]
      refine regTake (i := 7) (v := ?vg1_7) rfl (by kernel_rfl) (by kernel_rfl) (by kernel_rfl) (fun _ _ _ h => h) (Or.inl ⟨by rfl, ?hyg1_7⟩) (by assumption) ?_
      case hyg1_7 => (intro w hSw; (try dsimp only at hSw); go_simp; (try with_reducible rfl))
      try simp only [Act.put, List.setIfInBounds_toArray, List.set_cons_zero, List.set_cons_succ]
      refine regTake (i := 8) (v := ?vg1_8) rfl (by kernel_rfl) (by kernel_rfl) (by kernel_rfl) (fun _ _ _ h => h) (Or.inl ⟨by rfl, ?hyg1_8⟩) (by assumption) ?_
      case hyg1_8 => (intro w hSw; (try dsimp only at hSw); go_simp; (try with_reducible rfl))
      try simp only [Act.put, List.setIfInBounds_toArray, List.set_cons_zero, List.set_cons_succ]
      refine regTake (i := 9) (v := ?vg1_9) rfl (by kernel_rfl) (by kernel_rfl) (by kernel_rfl) (fun _ _ _ h => h) (Or.inl ⟨by rfl, ?hyg1_9⟩) (by assumption) ?_
      case hyg1_9 => (intro w hSw; (try dsimp only at hSw); go_simp; (try with_reducible rfl))
      try simp only [Act.put, List.setIfInBounds_toArray, List.set_cons_zero, List.set_cons_succ]
      refine wpAnyH_ready (rs := [10]) (by kernel_rfl) (by simp) ?_
      refine regCons rfl (fun K hK => ?_)
      go_simp
      refine (HP.out _ (below_trans h0 (hkg1_1))).mono ?_
      rintro e yg1_2 ⟨rfl, hyg1_2⟩
      have hkg1_2 := below_trans (hkg1_1) hyg1_2
      refine hK.out _ _ ?_ (fun hS3 => ?_)
      · (refine (fun hB => ⟨hB, cell_keep x0 hB, cell_keep x1 hB, cell_keep x2 hB, cell_keep x3 hB, cell_keep x4 hB, cell_keep x5 hB, cell_keep x6 hB, cell_keep x7 hB, cell_keep x8 hB, cell_keep x9 hB⟩ : Below (((w2.alloc (Obj.cells #[.int .i64 k4, .slice a4 n4 c4] 25)).alloc (Obj.cells #[.int .i64 k5, .slice a5 n5 c5] 25))).heap.size (((w2.alloc (Obj.cells #[.int .i64 k4, .slice a4 n4 c4] 25)).alloc (Obj.cells #[.int .i64 k5, .slice a5 n5 c5] 25))) _ → _) ?_; exact hkg1_2)
      clear hK K hS2
      try simp only [Act.put, List.setIfInBounds_toArray, List.set_cons_zero, List.set_cons_succ]
      refine regTake (i := 11) (v := ?vg1_11) rfl (by kernel_rfl) (by kernel_rfl) (by kernel_rfl) (fun _ _ _ h => h) (Or.inl ⟨by rfl, ?hyg1_11⟩) (by assumption) ?_
      case hyg1_11 => (intro w hSw; (try dsimp only at hSw); go_simp; (try with_reducible rfl))
      try simp only [Act.put, List.setIfInBounds_toArray, List.set_cons_zero, List.set_cons_succ]
      refine regTake (i := 12) (v := .bool true) rfl (by kernel_rfl) (by kernel_rfl) (by kernel_rfl) (fun _ _ _ h => h) (Or.inl ⟨by rfl, ?hyg1_12⟩) (by assumption) ?_
      case hyg1_12 => (intro w hSw; (try dsimp only at hSw); go_simp; (try with_reducible rfl))
      try simp only [Act.put, List.setIfInBounds_toArray, List.set_cons_zero, List.set_cons_succ]
      refine wpAnyH_done (by kernel_rfl) ?_ _
      have hlg1_ := below_trans h0 hkg1_2
      replace x0 := cell_keep x0 hkg1_2
      replace x1 := cell_keep x1 hkg1_2
      replace x2 := cell_keep x2 hkg1_2
      replace x3 := cell_keep x3 hkg1_2
      replace x4 := cell_keep x4 hkg1_2
      replace x5 := cell_keep x5 hkg1_2
      replace x6 := cell_keep x6 hkg1_2
      replace x7 := cell_keep x7 hkg1_2
      replace x8 := cell_keep x8 hkg1_2
      replace x9 := cell_keep x9 hkg1_2
      go_wp2_with fail
      refine wp_region_held_drew (S := (fun w' => Below (yg1_2).heap.size (yg1_2) w' ∧ w'.cell? ⟨w1.heap.size, 0, none⟩ = some (.int .i64 k1) ∧ w'.cell? ⟨w1.heap.size, 1, none⟩ = some (.slice a1 n1 c1) ∧ w'.cell? ⟨w1.heap.size + 1, 0, none⟩ = some (.int .i64 k2) ∧ w'.cell? ⟨w1.heap.size + 1, 1, none⟩ = some (.slice a2 n2 c2) ∧ w'.cell? ⟨w1.heap.size + 1 + 1, 0, none⟩ = some (.int .i64 k3) ∧ w'.cell? ⟨w1.heap.size + 1 + 1, 1, none⟩ = some (.slice a3 n3 c3) ∧ w'.cell? ⟨w2.heap.size, 0, none⟩ = some (.int .i64 k4) ∧ w'.cell? ⟨w2.heap.size, 1, none⟩ = some (.slice a4 n4 c4) ∧ w'.cell? ⟨w2.heap.size + 1, 0, none⟩ = some (.int .i64 k5) ∧ w'.cell? ⟨w2.heap.size + 1, 1, none⟩ = some (.slice a5 n5 c5))) (by kernel_rfl) ?_ (fun hS0 => ?_)
      · (refine (fun hB => ⟨hB, cell_keep x0 hB, cell_keep x1 hB, cell_keep x2 hB, cell_keep x3 hB, cell_keep x4 hB, cell_keep x5 hB, cell_keep x6 hB, cell_keep x7 hB, cell_keep x8 hB, cell_keep x9 hB⟩ : Below (yg1_2).heap.size (yg1_2) _ → _) ?_; exact below_drew _)
      refine regTake (i := 0) (v := ?vg2_0) rfl (by kernel_rfl) (by kernel_rfl) (by kernel_rfl) (fun _ _ _ h => h) (Or.inl ⟨by rfl, ?hyg2_0⟩) (by assumption) ?_
      case hyg2_0 => (intro w hSw; (try dsimp only at hSw); go_simp; (try with_reducible rfl))
      try simp only [Act.put, List.setIfInBounds_toArray, List.set_cons_zero, List.set_cons_succ]
      refine regTake (i := 1) (v := ?vg2_1) rfl (by kernel_rfl) (by kernel_rfl) (by kernel_rfl) (fun _ _ _ h => h) (Or.inl ⟨by rfl, ?hyg2_1⟩) (by assumption) ?_
      case hyg2_1 => (intro w hSw; (try dsimp only at hSw); go_simp; (try with_reducible rfl))
      try simp only [Act.put, List.setIfInBounds_toArray, List.set_cons_zero, List.set_cons_succ]
      refine regTake (i := 3) (v := ?vg2_3) rfl (by kernel_rfl) (by kernel_rfl) (by kernel_rfl) (fun _ _ _ h => h) (Or.inl ⟨by rfl, ?hyg2_3⟩) (by assumption) ?_
      case hyg2_3 => (intro w hSw; (try dsimp only at hSw); go_simp; (try with_reducible rfl))
      try simp only [Act.put, List.setIfInBounds_toArray, List.set_cons_zero, List.set_cons_succ]
      refine regTake (i := 4) (v := ?vg2_4) rfl (by kernel_rfl) (by kernel_rfl) (by kernel_rfl) (fun _ _ _ h => h) (Or.inl ⟨by rfl, ?hyg2_4⟩) (by assumption) ?_
      case hyg2_4 => (intro w hSw; (try dsimp only at hSw); go_simp; (try with_reducible rfl))
      try simp only [Act.put, List.setIfInBounds_toArray, List.set_cons_zero, List.set_cons_succ]
      refine wpAnyH_ready (rs := [2]) (by kernel_rfl) (by simp) ?_
      refine regCons rfl (fun K hK => ?_)
      go_simp
      refine (HXI.out _ (below_trans hlg1_ (below_drew (yg1_2)))).mono ?_
      rintro e yg2_0 ⟨rfl, hyg2_0⟩
      have hkg2_0 := below_trans (below_drew (yg1_2)) hyg2_0
      refine hK.out _ _ ?_ (fun hS1 => ?_)
      · (refine (fun hB => ⟨hB, cell_keep x0 hB, cell_keep x1 hB, cell_keep x2 hB, cell_keep x3 hB, cell_keep x4 hB, cell_keep x5 hB, cell_keep x6 hB, cell_keep x7 hB, cell_keep x8 hB, cell_keep x9 hB⟩ : Below (yg1_2).heap.size (yg1_2) _ → _) ?_; exact hkg2_0)
      clear hK K hS0
      try simp only [Act.put, List.setIfInBounds_toArray, List.set_cons_zero, List.set_cons_succ]
      refine wpAnyH_ready (rs := [5]) (by kernel_rfl) (by simp) ?_
      refine regCons rfl (fun K hK => ?_)
      go_simp
      refine (HXS.out _ (below_trans hlg1_ (hkg2_0))).mono ?_
      rintro e yg2_1 ⟨rfl, hyg2_1⟩
      have hkg2_1 := below_trans (hkg2_0) hyg2_1
      refine hK.out _ _ ?_ (fun hS2 => ?_)
      · (refine (fun hB => ⟨hB, cell_keep x0 hB, cell_keep x1 hB, cell_keep x2 hB, cell_keep x3 hB, cell_keep x4 hB, cell_keep x5 hB, cell_keep x6 hB, cell_keep x7 hB, cell_keep x8 hB, cell_keep x9 hB⟩ : Below (yg1_2).heap.size (yg1_2) _ → _) ?_; exact hkg2_1)
      clear hK K hS1
      try simp only [Act.put, List.setIfInBounds_toArray, List.set_cons_zero, List.set_cons_succ]
      refine regTake (i := 6) (v := ?vg2_6) rfl (by kernel_rfl) (by kernel_rfl) (by kernel_rfl) (fun _ _ _ h => h) (Or.inl ⟨by rfl, ?hyg2_6⟩) (by assumption) ?_
      case hyg2_6 => (intro w hSw; (try dsimp only at hSw); go_simp; (try with_reducible rfl))
      try simp only [Act.put, List.setIfInBounds_toArray, List.set_cons_zero, List.set_cons_succ]
      refine regTake (i := 7) (v := ?vg2_7) rfl (by kernel_rfl) (by kernel_rfl) (by kernel_rfl) (fun _ _ _ h => h) (Or.inl ⟨by rfl, ?hyg2_7⟩) (by assumption) ?_
      case hyg2_7 => (intro w hSw; (try dsimp only at hSw); go_simp; (try with_reducible rfl))
      try simp only [Act.put, List.setIfInBounds_toArray, List.set_cons_zero, List.set_cons_succ]
      refine wpAnyH_done (by kernel_rfl) ?_ _
      have hlg2_ := below_trans hlg1_ hkg2_1
      replace x0 := cell_keep x0 hkg2_1
      replace x1 := cell_keep x1 hkg2_1
      replace x2 := cell_keep x2 hkg2_1
      replace x3 := cell_keep x3 hkg2_1
      replace x4 := cell_keep x4 hkg2_1
      replace x5 := cell_keep x5 hkg2_1
      replace x6 := cell_keep x6 hkg2_1
      replace x7 := cell_keep x7 hkg2_1
      replace x8 := cell_keep x8 hkg2_1
      replace x9 := cell_keep x9 hkg2_1
      go_wp2_with fail
      go_ret
      exact ⟨rfl, below_trans HBL.out hlg2_⟩
    · have HQ12 := hid (HT1.out rfl)
      have HQ34 := hid (HT2.out rfl)
      go_wp2_with fail
      refine wp_region_held_drew (S := (fun w' => Below (((w2.alloc (Obj.cells #[.int .i64 k4, .slice a4 n4 c4] 25)).alloc (Obj.cells #[.int .i64 k5, .slice a5 n5 c5] 25))).heap.size (((w2.alloc (Obj.cells #[.int .i64 k4, .slice a4 n4 c4] 25)).alloc (Obj.cells #[.int .i64 k5, .slice a5 n5 c5] 25))) w' ∧ w'.cell? ⟨w1.heap.size, 0, none⟩ = some (.int .i64 k1) ∧ w'.cell? ⟨w1.heap.size, 1, none⟩ = some (.slice a1 n1 c1) ∧ w'.cell? ⟨w1.heap.size + 1, 0, none⟩ = some (.int .i64 k2) ∧ w'.cell? ⟨w1.heap.size + 1, 1, none⟩ = some (.slice a2 n2 c2) ∧ w'.cell? ⟨w1.heap.size + 1 + 1, 0, none⟩ = some (.int .i64 k3) ∧ w'.cell? ⟨w1.heap.size + 1 + 1, 1, none⟩ = some (.slice a3 n3 c3) ∧ w'.cell? ⟨w2.heap.size, 0, none⟩ = some (.int .i64 k4) ∧ w'.cell? ⟨w2.heap.size, 1, none⟩ = some (.slice a4 n4 c4) ∧ w'.cell? ⟨w2.heap.size + 1, 0, none⟩ = some (.int .i64 k5) ∧ w'.cell? ⟨w2.heap.size + 1, 1, none⟩ = some (.slice a5 n5 c5))) (by kernel_rfl) ?_ (fun hS0 => ?_)
      · (refine (fun hB => ⟨hB, cell_keep x0 hB, cell_keep x1 hB, cell_keep x2 hB, cell_keep x3 hB, cell_keep x4 hB, cell_keep x5 hB, cell_keep x6 hB, cell_keep x7 hB, cell_keep x8 hB, cell_keep x9 hB⟩ : Below (((w2.alloc (Obj.cells #[.int .i64 k4, .slice a4 n4 c4] 25)).alloc (Obj.cells #[.int .i64 k5, .slice a5 n5 c5] 25))).heap.size (((w2.alloc (Obj.cells #[.int .i64 k4, .slice a4 n4 c4] 25)).alloc (Obj.cells #[.int .i64 k5, .slice a5 n5 c5] 25))) _ → _) ?_; exact below_drew _)
      refine regTake (i := 0) (v := ?vg3_0) rfl (by kernel_rfl) (by kernel_rfl) (by kernel_rfl) (fun _ _ _ h => h) (Or.inl ⟨by rfl, ?hyg3_0⟩) (by assumption) ?_
      case hyg3_0 => (intro w hSw; (try dsimp only at hSw); go_simp; (try with_reducible rfl))
      try simp only [Act.put, List.setIfInBounds_toArray, List.set_cons_zero, List.set_cons_succ]
      refine regTake (i := 1) (v := ?vg3_1) rfl (by kernel_rfl) (by kernel_rfl) (by kernel_rfl) (fun _ _ _ h => h) (Or.inl ⟨by rfl, ?hyg3_1⟩) (by assumption) ?_
      case hyg3_1 => (intro w hSw; (try dsimp only at hSw); go_simp; (try with_reducible rfl))
      try simp only [Act.put, List.setIfInBounds_toArray, List.set_cons_zero, List.set_cons_succ]
      refine regTake (i := 3) (v := ?vg3_3) rfl (by kernel_rfl) (by kernel_rfl) (by kernel_rfl) (fun _ _ _ h => h) (Or.inl ⟨by rfl, ?hyg3_3⟩) (by assumption) ?_
      case hyg3_3 => (intro w hSw; (try dsimp only at hSw); go_simp; (try with_reducible rfl))
      try simp only [Act.put, List.setIfInBounds_toArray, List.set_cons_zero, List.set_cons_succ]
      refine regTake (i := 4) (v := ?vg3_4) rfl (by kernel_rfl) (by kernel_rfl) (by kernel_rfl) (fun _ _ _ h => h) (Or.inl ⟨by rfl, ?hyg3_4⟩) (by assumption) ?_
      case hyg3_4 => (intro w hSw; (try dsimp only at hSw); go_simp; (try with_reducible rfl))
      try simp only [Act.put, List.setIfInBounds_toArray, List.set_cons_zero, List.set_cons_succ]
      refine wpAnyH_ready (rs := [2]) (by kernel_rfl) (by simp) ?_
      refine regCons rfl (fun K hK => ?_)
      go_simp
      refine (HXI.out _ (below_trans h0 (below_drew (((w2.alloc (Obj.cells #[.int .i64 k4, .slice a4 n4 c4] 25)).alloc (Obj.cells #[.int .i64 k5, .slice a5 n5 c5] 25)))))).mono ?_
      rintro e yg3_0 ⟨rfl, hyg3_0⟩
      have hkg3_0 := below_trans (below_drew (((w2.alloc (Obj.cells #[.int .i64 k4, .slice a4 n4 c4] 25)).alloc (Obj.cells #[.int .i64 k5, .slice a5 n5 c5] 25)))) hyg3_0
      refine hK.out _ _ ?_ (fun hS1 => ?_)
      · (refine (fun hB => ⟨hB, cell_keep x0 hB, cell_keep x1 hB, cell_keep x2 hB, cell_keep x3 hB, cell_keep x4 hB, cell_keep x5 hB, cell_keep x6 hB, cell_keep x7 hB, cell_keep x8 hB, cell_keep x9 hB⟩ : Below (((w2.alloc (Obj.cells #[.int .i64 k4, .slice a4 n4 c4] 25)).alloc (Obj.cells #[.int .i64 k5, .slice a5 n5 c5] 25))).heap.size (((w2.alloc (Obj.cells #[.int .i64 k4, .slice a4 n4 c4] 25)).alloc (Obj.cells #[.int .i64 k5, .slice a5 n5 c5] 25))) _ → _) ?_; exact hkg3_0)
      clear hK K hS0
      try simp only [Act.put, List.setIfInBounds_toArray, List.set_cons_zero, List.set_cons_succ]
      refine wpAnyH_ready (rs := [5]) (by kernel_rfl) (by simp) ?_
      refine regCons rfl (fun K hK => ?_)
      go_simp
      refine (HXS.out _ (below_trans h0 (hkg3_0))).mono ?_
      rintro e yg3_1 ⟨rfl, hyg3_1⟩
      have hkg3_1 := below_trans (hkg3_0) hyg3_1
      refine hK.out _ _ ?_ (fun hS2 => ?_)
      · (refine (fun hB => ⟨hB, cell_keep x0 hB, cell_keep x1 hB, cell_keep x2 hB, cell_keep x3 hB, cell_keep x4 hB, cell_keep x5 hB, cell_keep x6 hB, cell_keep x7 hB, cell_keep x8 hB, cell_keep x9 hB⟩ : Below (((w2.alloc (Obj.cells #[.int .i64 k4, .slice a4 n4 c4] 25)).alloc (Obj.cells #[.int .i64 k5, .slice a5 n5 c5] 25))).heap.size (((w2.alloc (Obj.cells #[.int .i64 k4, .slice a4 n4 c4] 25)).alloc (Obj.cells #[.int .i64 k5, .slice a5 n5 c5] 25))) _ → _) ?_; exact hkg3_1)
      clear hK K hS1
      try simp only [Act.put, List.setIfInBounds_toArray, List.set_cons_zero, List.set_cons_succ]
      refine regTake (i := 6) (v := ?vg3_6) rfl (by kernel_rfl) (by kernel_rfl) (by kernel_rfl) (fun _ _ _ h => h) (Or.inl ⟨by rfl, ?hyg3_6⟩) (by assumption) ?_
      case hyg3_6 => (intro w hSw; (try dsimp only at hSw); go_simp; (try with_reducible rfl))
      try simp only [Act.put, List.setIfInBounds_toArray, List.set_cons_zero, List.set_cons_succ]
      refine regTake (i := 7) (v := ?vg3_7) rfl (by kernel_rfl) (by kernel_rfl) (by kernel_rfl) (fun _ _ _ h => h) (Or.inl ⟨by rfl, ?hyg3_7⟩) (by assumption) ?_
      case hyg3_7 => (intro w hSw; (try dsimp only at hSw); go_simp; (try with_reducible rfl))
      try simp only [Act.put, List.setIfInBounds_toArray, List.set_cons_zero, List.set_cons_succ]
      refine regTake (i := 8) (v := ?vg3_8) rfl (by kernel_rfl) (by kernel_rfl) (by kernel_rfl) (fun _ _ _ h => h) (Or.inl ⟨by rfl, ?hyg3_8⟩) (by assumption) ?_
      case hyg3_8 => (intro w hSw; (try dsimp only at hSw); go_simp; (try with_reducible rfl))
      try simp only [Act.put, List.setIfInBounds_toArray, List.set_cons_zero, List.set_cons_succ]
      refine regTake (i := 9) (v := ?vg3_9) rfl (by kernel_rfl) (by kernel_rfl) (by kernel_rfl) (fun _ _ _ h => h) (Or.inl ⟨by rfl, ?hyg3_9⟩) (by assumption) ?_
      case hyg3_9 => (intro w hSw; (try dsimp only at hSw); go_simp; (try with_reducible rfl))
      try simp only [Act.put, List.setIfInBounds_toArray, List.set_cons_zero, List.set_cons_succ]
      refine wpAnyH_ready (rs := [10]) (by kernel_rfl) (by simp) ?_
      refine regCons rfl (fun K hK => ?_)
      go_simp
      refine (HP.out _ (below_trans h0 (hkg3_1))).mono ?_
      rintro e yg3_2 ⟨rfl, hyg3_2⟩
      have hkg3_2 := below_trans (hkg3_1) hyg3_2
      refine hK.out _ _ ?_ (fun hS3 => ?_)
      · (refine (fun hB => ⟨hB, cell_keep x0 hB, cell_keep x1 hB, cell_keep x2 hB, cell_keep x3 hB, cell_keep x4 hB, cell_keep x5 hB, cell_keep x6 hB, cell_keep x7 hB, cell_keep x8 hB, cell_keep x9 hB⟩ : Below (((w2.alloc (Obj.cells #[.int .i64 k4, .slice a4 n4 c4] 25)).alloc (Obj.cells #[.int .i64 k5, .slice a5 n5 c5] 25))).heap.size (((w2.alloc (Obj.cells #[.int .i64 k4, .slice a4 n4 c4] 25)).alloc (Obj.cells #[.int .i64 k5, .slice a5 n5 c5] 25))) _ → _) ?_; exact hkg3_2)
      clear hK K hS2
      try simp only [Act.put, List.setIfInBounds_toArray, List.set_cons_zero, List.set_cons_succ]
      refine regTake (i := 11) (v := ?vg3_11) rfl (by kernel_rfl) (by kernel_rfl) (by kernel_rfl) (fun _ _ _ h => h) (Or.inl ⟨by rfl, ?hyg3_11⟩) (by assumption) ?_
      case hyg3_11 => (intro w hSw; (try dsimp only at hSw); go_simp; (try with_reducible rfl))
      try simp only [Act.put, List.setIfInBounds_toArray, List.set_cons_zero, List.set_cons_succ]
      refine regTake (i := 12) (v := .bool false) rfl (by kernel_rfl) (by kernel_rfl) (by kernel_rfl) (fun _ _ _ h => h) (Or.inl ⟨by rfl, ?hyg3_12⟩) (by assumption) ?_
      case hyg3_12 => (intro w hSw; (try dsimp only at hSw); go_simp; (try with_reducible rfl))
      try simp only [Act.put, List.setIfInBounds_toArray, List.set_cons_zero, List.set_cons_succ]
      refine wpAnyH_done (by kernel_rfl) ?_ _
      have hlg3_ := below_trans h0 hkg3_2
      replace x0 := cell_keep x0 hkg3_2
      replace x1 := cell_keep x1 hkg3_2
      replace x2 := cell_keep x2 hkg3_2
      replace x3 := cell_keep x3 hkg3_2
      replace x4 := cell_keep x4 hkg3_2
      replace x5 := cell_keep x5 hkg3_2
      replace x6 := cell_keep x6 hkg3_2
      replace x7 := cell_keep x7 hkg3_2
      replace x8 := cell_keep x8 hkg3_2
      replace x9 := cell_keep x9 hkg3_2
      cases q1
      · cases q3
        · go_wp2_with fail
          refine (HQ1.out _ hlg3_).mono ?_
          rintro e z1 ⟨rfl, hz1⟩
          have hc1 := below_trans hlg3_ hz1
          replace x0 := cell_keep x0 hz1
          replace x1 := cell_keep x1 hz1
          replace x2 := cell_keep x2 hz1
          replace x3 := cell_keep x3 hz1
          replace x4 := cell_keep x4 hz1
          replace x5 := cell_keep x5 hz1
          replace x6 := cell_keep x6 hz1
          replace x7 := cell_keep x7 hz1
          replace x8 := cell_keep x8 hz1
          replace x9 := cell_keep x9 hz1
          go_wp2_with fail
          refine (HQ3.out _ hc1).mono ?_
          rintro e z2 ⟨rfl, hz2⟩
          have hc2 := below_trans hc1 hz2
          replace x0 := cell_keep x0 hz2
          replace x1 := cell_keep x1 hz2
          replace x2 := cell_keep x2 hz2
          replace x3 := cell_keep x3 hz2
          replace x4 := cell_keep x4 hz2
          replace x5 := cell_keep x5 hz2
          replace x6 := cell_keep x6 hz2
          replace x7 := cell_keep x7 hz2
          replace x8 := cell_keep x8 hz2
          replace x9 := cell_keep x9 hz2
          go_wp2_with fail
          go_ret
          exact ⟨rfl, below_trans HBL.out hc2⟩
        · have e4 := HQ34.out rfl
          subst e4
          go_wp2_with fail
          refine (HQ1.out _ hlg3_).mono ?_
          rintro e z3 ⟨rfl, hz3⟩
          have hc3 := below_trans hlg3_ hz3
          replace x0 := cell_keep x0 hz3
          replace x1 := cell_keep x1 hz3
          replace x2 := cell_keep x2 hz3
          replace x3 := cell_keep x3 hz3
          replace x4 := cell_keep x4 hz3
          replace x5 := cell_keep x5 hz3
          replace x6 := cell_keep x6 hz3
          replace x7 := cell_keep x7 hz3
          replace x8 := cell_keep x8 hz3
          replace x9 := cell_keep x9 hz3
          go_wp2_with fail
          refine (HQ3.out _ hc3).mono ?_
          rintro e z4 ⟨rfl, hz4⟩
          have hc4 := below_trans hc3 hz4
          replace x0 := cell_keep x0 hz4
          replace x1 := cell_keep x1 hz4
          replace x2 := cell_keep x2 hz4
          replace x3 := cell_keep x3 hz4
          replace x4 := cell_keep x4 hz4
          replace x5 := cell_keep x5 hz4
          replace x6 := cell_keep x6 hz4
          replace x7 := cell_keep x7 hz4
          replace x8 := cell_keep x8 hz4
          replace x9 := cell_keep x9 hz4
          go_wp2_with fail
          refine (HQ4.out _ hc4).mono ?_
          rintro e z5 ⟨rfl, hz5⟩
          have hc5 := below_trans hc4 hz5
          replace x0 := cell_keep x0 hz5
          replace x1 := cell_keep x1 hz5
          replace x2 := cell_keep x2 hz5
          replace x3 := cell_keep x3 hz5
          replace x4 := cell_keep x4 hz5
          replace x5 := cell_keep x5 hz5
          replace x6 := cell_keep x6 hz5
          replace x7 := cell_keep x7 hz5
          replace x8 := cell_keep x8 hz5
          replace x9 := cell_keep x9 hz5
          go_wp2_with fail
          go_ret
          exact ⟨rfl, below_trans HBL.out hc5⟩
      · have e2 := HQ12.out rfl
        subst e2
        cases q3
        · go_wp2_with fail
          refine (HQ1.out _ hlg3_).mono ?_
          rintro e z6 ⟨rfl, hz6⟩
          have hc6 := below_trans hlg3_ hz6
          replace x0 := cell_keep x0 hz6
          replace x1 := cell_keep x1 hz6
          replace x2 := cell_keep x2 hz6
          replace x3 := cell_keep x3 hz6
          replace x4 := cell_keep x4 hz6
          replace x5 := cell_keep x5 hz6
          replace x6 := cell_keep x6 hz6
          replace x7 := cell_keep x7 hz6
          replace x8 := cell_keep x8 hz6
          replace x9 := cell_keep x9 hz6
          go_wp2_with fail
          refine (HQ2.out _ hc6).mono ?_
          rintro e z7 ⟨rfl, hz7⟩
          have hc7 := below_trans hc6 hz7
          replace x0 := cell_keep x0 hz7
          replace x1 := cell_keep x1 hz7
          replace x2 := cell_keep x2 hz7
          replace x3 := cell_keep x3 hz7
          replace x4 := cell_keep x4 hz7
          replace x5 := cell_keep x5 hz7
          replace x6 := cell_keep x6 hz7
          replace x7 := cell_keep x7 hz7
          replace x8 := cell_keep x8 hz7
          replace x9 := cell_keep x9 hz7
          go_wp2_with fail
          refine (HQ3.out _ hc7).mono ?_
          rintro e z8 ⟨rfl, hz8⟩
          have hc8 := below_trans hc7 hz8
          replace x0 := cell_keep x0 hz8
          replace x1 := cell_keep x1 hz8
          replace x2 := cell_keep x2 hz8
          replace x3 := cell_keep x3 hz8
          replace x4 := cell_keep x4 hz8
          replace x5 := cell_keep x5 hz8
          replace x6 := cell_keep x6 hz8
          replace x7 := cell_keep x7 hz8
          replace x8 := cell_keep x8 hz8
          replace x9 := cell_keep x9 hz8
          go_wp2_with fail
          go_ret
          exact ⟨rfl, below_trans HBL.out hc8⟩
        · have e4 := HQ34.out rfl
          subst e4
          go_wp2_with fail
          refine (HQ1.out _ hlg3_).mono ?_
          rintro e z9 ⟨rfl, hz9⟩
          have hc9 := below_trans hlg3_ hz9
          replace x0 := cell_keep x0 hz9
          replace x1 := cell_keep x1 hz9
          replace x2 := cell_keep x2 hz9
          replace x3 := cell_keep x3 hz9
          replace x4 := cell_keep x4 hz9
          replace x5 := cell_keep x5 hz9
          replace x6 := cell_keep x6 hz9
          replace x7 := cell_keep x7 hz9
          replace x8 := cell_keep x8 hz9
          replace x9 := cell_keep x9 hz9
          go_wp2_with fail
          refine (HQ2.out _ hc9).mono ?_
          rintro e z10 ⟨rfl, hz10⟩
          have hc10 := below_trans hc9 hz10
          replace x0 := cell_keep x0 hz10
          replace x1 := cell_keep x1 hz10
          replace x2 := cell_keep x2 hz10
          replace x3 := cell_keep x3 hz10
          replace x4 := cell_keep x4 hz10
          replace x5 := cell_keep x5 hz10
          replace x6 := cell_keep x6 hz10
          replace x7 := cell_keep x7 hz10
          replace x8 := cell_keep x8 hz10
          replace x9 := cell_keep x9 hz10
          go_wp2_with fail
          refine (HQ3.out _ hc10).mono ?_
          rintro e z11 ⟨rfl, hz11⟩
          have hc11 := below_trans hc10 hz11
          replace x0 := cell_keep x0 hz11
          replace x1 := cell_keep x1 hz11
          replace x2 := cell_keep x2 hz11
          replace x3 := cell_keep x3 hz11
          replace x4 := cell_keep x4 hz11
          replace x5 := cell_keep x5 hz11
          replace x6 := cell_keep x6 hz11
          replace x7 := cell_keep x7 hz11
          replace x8 := cell_keep x8 hz11
          replace x9 := cell_keep x9 hz11
          go_wp2_with fail
          refine (HQ4.out _ hc11).mono ?_
          rintro e z12 ⟨rfl, hz12⟩
          have hc12 := below_trans hc11 hz12
          replace x0 := cell_keep x0 hz12
          replace x1 := cell_keep x1 hz12
          replace x2 := cell_keep x2 hz12
          replace x3 := cell_keep x3 hz12
          replace x4 := cell_keep x4 hz12
          replace x5 := cell_keep x5 hz12
          replace x6 := cell_keep x6 hz12
          replace x7 := cell_keep x7 hz12
          replace x8 := cell_keep x8 hz12
          replace x9 := cell_keep x9 hz12
          go_wp2_with fail
          go_ret
          exact ⟨rfl, below_trans HBL.out hc12⟩
  · cases p
    · go_wp2_with fail
      refine wp_region_held_drew (S := (fun w' => Below (((w2.alloc (Obj.cells #[.int .i64 k4, .slice a4 n4 c4] 25)).alloc (Obj.cells #[.int .i64 k5, .slice a5 n5 c5] 25))).heap.size (((w2.alloc (Obj.cells #[.int .i64 k4, .slice a4 n4 c4] 25)).alloc (Obj.cells #[.int .i64 k5, .slice a5 n5 c5] 25))) w' ∧ w'.cell? ⟨w1.heap.size, 0, none⟩ = some (.int .i64 k1) ∧ w'.cell? ⟨w1.heap.size, 1, none⟩ = some (.slice a1 n1 c1) ∧ w'.cell? ⟨w1.heap.size + 1, 0, none⟩ = some (.int .i64 k2) ∧ w'.cell? ⟨w1.heap.size + 1, 1, none⟩ = some (.slice a2 n2 c2) ∧ w'.cell? ⟨w1.heap.size + 1 + 1, 0, none⟩ = some (.int .i64 k3) ∧ w'.cell? ⟨w1.heap.size + 1 + 1, 1, none⟩ = some (.slice a3 n3 c3) ∧ w'.cell? ⟨w2.heap.size, 0, none⟩ = some (.int .i64 k4) ∧ w'.cell? ⟨w2.heap.size, 1, none⟩ = some (.slice a4 n4 c4) ∧ w'.cell? ⟨w2.heap.size + 1, 0, none⟩ = some (.int .i64 k5) ∧ w'.cell? ⟨w2.heap.size + 1, 1, none⟩ = some (.slice a5 n5 c5))) (by kernel_rfl) ?_ (fun hS0 => ?_)
      · (refine (fun hB => ⟨hB, cell_keep x0 hB, cell_keep x1 hB, cell_keep x2 hB, cell_keep x3 hB, cell_keep x4 hB, cell_keep x5 hB, cell_keep x6 hB, cell_keep x7 hB, cell_keep x8 hB, cell_keep x9 hB⟩ : Below (((w2.alloc (Obj.cells #[.int .i64 k4, .slice a4 n4 c4] 25)).alloc (Obj.cells #[.int .i64 k5, .slice a5 n5 c5] 25))).heap.size (((w2.alloc (Obj.cells #[.int .i64 k4, .slice a4 n4 c4] 25)).alloc (Obj.cells #[.int .i64 k5, .slice a5 n5 c5] 25))) _ → _) ?_; exact below_drew _)
      refine regTake (i := 0) (v := ?vg4_0) rfl (by kernel_rfl) (by kernel_rfl) (by kernel_rfl) (fun _ _ _ h => h) (Or.inl ⟨by rfl, ?hyg4_0⟩) (by assumption) ?_
      case hyg4_0 => (intro w hSw; (try dsimp only at hSw); go_simp; (try with_reducible rfl))
      try simp only [Act.put, List.setIfInBounds_toArray, List.set_cons_zero, List.set_cons_succ]
      refine regTake (i := 1) (v := ?vg4_1) rfl (by kernel_rfl) (by kernel_rfl) (by kernel_rfl) (fun _ _ _ h => h) (Or.inl ⟨by rfl, ?hyg4_1⟩) (by assumption) ?_
      case hyg4_1 => (intro w hSw; (try dsimp only at hSw); go_simp; (try with_reducible rfl))
      try simp only [Act.put, List.setIfInBounds_toArray, List.set_cons_zero, List.set_cons_succ]
      refine regTake (i := 3) (v := ?vg4_3) rfl (by kernel_rfl) (by kernel_rfl) (by kernel_rfl) (fun _ _ _ h => h) (Or.inl ⟨by rfl, ?hyg4_3⟩) (by assumption) ?_
      case hyg4_3 => (intro w hSw; (try dsimp only at hSw); go_simp; (try with_reducible rfl))
      try simp only [Act.put, List.setIfInBounds_toArray, List.set_cons_zero, List.set_cons_succ]
      refine regTake (i := 4) (v := ?vg4_4) rfl (by kernel_rfl) (by kernel_rfl) (by kernel_rfl) (fun _ _ _ h => h) (Or.inl ⟨by rfl, ?hyg4_4⟩) (by assumption) ?_
      case hyg4_4 => (intro w hSw; (try dsimp only at hSw); go_simp; (try with_reducible rfl))
      try simp only [Act.put, List.setIfInBounds_toArray, List.set_cons_zero, List.set_cons_succ]
      refine wpAnyH_ready (rs := [2]) (by kernel_rfl) (by simp) ?_
      refine regCons rfl (fun K hK => ?_)
      go_simp
      refine (HXI.out _ (below_trans h0 (below_drew (((w2.alloc (Obj.cells #[.int .i64 k4, .slice a4 n4 c4] 25)).alloc (Obj.cells #[.int .i64 k5, .slice a5 n5 c5] 25)))))).mono ?_
      rintro e yg4_0 ⟨rfl, hyg4_0⟩
      have hkg4_0 := below_trans (below_drew (((w2.alloc (Obj.cells #[.int .i64 k4, .slice a4 n4 c4] 25)).alloc (Obj.cells #[.int .i64 k5, .slice a5 n5 c5] 25)))) hyg4_0
      refine hK.out _ _ ?_ (fun hS1 => ?_)
      · (refine (fun hB => ⟨hB, cell_keep x0 hB, cell_keep x1 hB, cell_keep x2 hB, cell_keep x3 hB, cell_keep x4 hB, cell_keep x5 hB, cell_keep x6 hB, cell_keep x7 hB, cell_keep x8 hB, cell_keep x9 hB⟩ : Below (((w2.alloc (Obj.cells #[.int .i64 k4, .slice a4 n4 c4] 25)).alloc (Obj.cells #[.int .i64 k5, .slice a5 n5 c5] 25))).heap.size (((w2.alloc (Obj.cells #[.int .i64 k4, .slice a4 n4 c4] 25)).alloc (Obj.cells #[.int .i64 k5, .slice a5 n5 c5] 25))) _ → _) ?_; exact hkg4_0)
      clear hK K hS0
      try simp only [Act.put, List.setIfInBounds_toArray, List.set_cons_zero, List.set_cons_succ]
      refine wpAnyH_ready (rs := [5]) (by kernel_rfl) (by simp) ?_
      refine regCons rfl (fun K hK => ?_)
      go_simp
      refine (HXS.out _ (below_trans h0 (hkg4_0))).mono ?_
      rintro e yg4_1 ⟨rfl, hyg4_1⟩
      have hkg4_1 := below_trans (hkg4_0) hyg4_1
      refine hK.out _ _ ?_ (fun hS2 => ?_)
      · (refine (fun hB => ⟨hB, cell_keep x0 hB, cell_keep x1 hB, cell_keep x2 hB, cell_keep x3 hB, cell_keep x4 hB, cell_keep x5 hB, cell_keep x6 hB, cell_keep x7 hB, cell_keep x8 hB, cell_keep x9 hB⟩ : Below (((w2.alloc (Obj.cells #[.int .i64 k4, .slice a4 n4 c4] 25)).alloc (Obj.cells #[.int .i64 k5, .slice a5 n5 c5] 25))).heap.size (((w2.alloc (Obj.cells #[.int .i64 k4, .slice a4 n4 c4] 25)).alloc (Obj.cells #[.int .i64 k5, .slice a5 n5 c5] 25))) _ → _) ?_; exact hkg4_1)
      clear hK K hS1
      try simp only [Act.put, List.setIfInBounds_toArray, List.set_cons_zero, List.set_cons_succ]
      refine regTake (i := 6) (v := ?vg4_6) rfl (by kernel_rfl) (by kernel_rfl) (by kernel_rfl) (fun _ _ _ h => h) (Or.inl ⟨by rfl, ?hyg4_6⟩) (by assumption) ?_
      case hyg4_6 => (intro w hSw; (try dsimp only at hSw); go_simp; (try with_reducible rfl))
      try simp only [Act.put, List.setIfInBounds_toArray, List.set_cons_zero, List.set_cons_succ]
      refine regTake (i := 7) (v := ?vg4_7) rfl (by kernel_rfl) (by kernel_rfl) (by kernel_rfl) (fun _ _ _ h => h) (Or.inl ⟨by rfl, ?hyg4_7⟩) (by assumption) ?_
      case hyg4_7 => (intro w hSw; (try dsimp only at hSw); go_simp; (try with_reducible rfl))
      try simp only [Act.put, List.setIfInBounds_toArray, List.set_cons_zero, List.set_cons_succ]
      refine regTake (i := 8) (v := ?vg4_8) rfl (by kernel_rfl) (by kernel_rfl) (by kernel_rfl) (fun _ _ _ h => h) (Or.inl ⟨by rfl, ?hyg4_8⟩) (by assumption) ?_
      case hyg4_8 => (intro w hSw; (try dsimp only at hSw); go_simp; (try with_reducible rfl))
      try simp only [Act.put, List.setIfInBounds_toArray, List.set_cons_zero, List.set_cons_succ]
      refine regTake (i := 9) (v := ?vg4_9) rfl (by kernel_rfl) (by kernel_rfl) (by kernel_rfl) (fun _ _ _ h => h) (Or.inl ⟨by rfl, ?hyg4_9⟩) (by assumption) ?_
      case hyg4_9 => (intro w hSw; (try dsimp only at hSw); go_simp; (try with_reducible rfl))
      try simp only [Act.put, List.setIfInBounds_toArray, List.set_cons_zero, List.set_cons_succ]
      refine wpAnyH_ready (rs := [10]) (by kernel_rfl) (by simp) ?_
      refine regCons rfl (fun K hK => ?_)
      go_simp
      refine (HP.out _ (below_trans h0 (hkg4_1))).mono ?_
      rintro e yg4_2 ⟨rfl, hyg4_2⟩
      have hkg4_2 := below_trans (hkg4_1) hyg4_2
      refine hK.out _ _ ?_ (fun hS3 => ?_)
      · (refine (fun hB => ⟨hB, cell_keep x0 hB, cell_keep x1 hB, cell_keep x2 hB, cell_keep x3 hB, cell_keep x4 hB, cell_keep x5 hB, cell_keep x6 hB, cell_keep x7 hB, cell_keep x8 hB, cell_keep x9 hB⟩ : Below (((w2.alloc (Obj.cells #[.int .i64 k4, .slice a4 n4 c4] 25)).alloc (Obj.cells #[.int .i64 k5, .slice a5 n5 c5] 25))).heap.size (((w2.alloc (Obj.cells #[.int .i64 k4, .slice a4 n4 c4] 25)).alloc (Obj.cells #[.int .i64 k5, .slice a5 n5 c5] 25))) _ → _) ?_; exact hkg4_2)
      clear hK K hS2
      try simp only [Act.put, List.setIfInBounds_toArray, List.set_cons_zero, List.set_cons_succ]
      refine regTake (i := 11) (v := ?vg4_11) rfl (by kernel_rfl) (by kernel_rfl) (by kernel_rfl) (fun _ _ _ h => h) (Or.inl ⟨by rfl, ?hyg4_11⟩) (by assumption) ?_
      case hyg4_11 => (intro w hSw; (try dsimp only at hSw); go_simp; (try with_reducible rfl))
      try simp only [Act.put, List.setIfInBounds_toArray, List.set_cons_zero, List.set_cons_succ]
      refine regTake (i := 12) (v := .bool true) rfl (by kernel_rfl) (by kernel_rfl) (by kernel_rfl) (fun _ _ _ h => h) (Or.inl ⟨by rfl, ?hyg4_12⟩) (by assumption) ?_
      case hyg4_12 => (intro w hSw; (try dsimp only at hSw); go_simp; (try with_reducible rfl))
      try simp only [Act.put, List.setIfInBounds_toArray, List.set_cons_zero, List.set_cons_succ]
      refine wpAnyH_done (by kernel_rfl) ?_ _
      have hlg4_ := below_trans h0 hkg4_2
      replace x0 := cell_keep x0 hkg4_2
      replace x1 := cell_keep x1 hkg4_2
      replace x2 := cell_keep x2 hkg4_2
      replace x3 := cell_keep x3 hkg4_2
      replace x4 := cell_keep x4 hkg4_2
      replace x5 := cell_keep x5 hkg4_2
      replace x6 := cell_keep x6 hkg4_2
      replace x7 := cell_keep x7 hkg4_2
      replace x8 := cell_keep x8 hkg4_2
      replace x9 := cell_keep x9 hkg4_2
      go_wp2_with fail
      refine wp_region_held_drew (S := (fun w' => Below (yg4_2).heap.size (yg4_2) w' ∧ w'.cell? ⟨w1.heap.size, 0, none⟩ = some (.int .i64 k1) ∧ w'.cell? ⟨w1.heap.size, 1, none⟩ = some (.slice a1 n1 c1) ∧ w'.cell? ⟨w1.heap.size + 1, 0, none⟩ = some (.int .i64 k2) ∧ w'.cell? ⟨w1.heap.size + 1, 1, none⟩ = some (.slice a2 n2 c2) ∧ w'.cell? ⟨w1.heap.size + 1 + 1, 0, none⟩ = some (.int .i64 k3) ∧ w'.cell? ⟨w1.heap.size + 1 + 1, 1, none⟩ = some (.slice a3 n3 c3) ∧ w'.cell? ⟨w2.heap.size, 0, none⟩ = some (.int .i64 k4) ∧ w'.cell? ⟨w2.heap.size, 1, none⟩ = some (.slice a4 n4 c4) ∧ w'.cell? ⟨w2.heap.size + 1, 0, none⟩ = some (.int .i64 k5) ∧ w'.cell? ⟨w2.heap.size + 1, 1, none⟩ = some (.slice a5 n5 c5))) (by kernel_rfl) ?_ (fun hS0 => ?_)
      · (refine (fun hB => ⟨hB, cell_keep x0 hB, cell_keep x1 hB, cell_keep x2 hB, cell_keep x3 hB, cell_keep x4 hB, cell_keep x5 hB, cell_keep x6 hB, cell_keep x7 hB, cell_keep x8 hB, cell_keep x9 hB⟩ : Below (yg4_2).heap.size (yg4_2) _ → _) ?_; exact below_drew _)
      refine regTake (i := 0) (v := ?vg5_0) rfl (by kernel_rfl) (by kernel_rfl) (by kernel_rfl) (fun _ _ _ h => h) (Or.inl ⟨by rfl, ?hyg5_0⟩) (by assumption) ?_
      case hyg5_0 => (intro w hSw; (try dsimp only at hSw); go_simp; (try with_reducible rfl))
      try simp only [Act.put, List.setIfInBounds_toArray, List.set_cons_zero, List.set_cons_succ]
      refine regTake (i := 1) (v := ?vg5_1) rfl (by kernel_rfl) (by kernel_rfl) (by kernel_rfl) (fun _ _ _ h => h) (Or.inl ⟨by rfl, ?hyg5_1⟩) (by assumption) ?_
      case hyg5_1 => (intro w hSw; (try dsimp only at hSw); go_simp; (try with_reducible rfl))
      try simp only [Act.put, List.setIfInBounds_toArray, List.set_cons_zero, List.set_cons_succ]
      refine regTake (i := 3) (v := ?vg5_3) rfl (by kernel_rfl) (by kernel_rfl) (by kernel_rfl) (fun _ _ _ h => h) (Or.inl ⟨by rfl, ?hyg5_3⟩) (by assumption) ?_
      case hyg5_3 => (intro w hSw; (try dsimp only at hSw); go_simp; (try with_reducible rfl))
      try simp only [Act.put, List.setIfInBounds_toArray, List.set_cons_zero, List.set_cons_succ]
      refine regTake (i := 4) (v := ?vg5_4) rfl (by kernel_rfl) (by kernel_rfl) (by kernel_rfl) (fun _ _ _ h => h) (Or.inl ⟨by rfl, ?hyg5_4⟩) (by assumption) ?_
      case hyg5_4 => (intro w hSw; (try dsimp only at hSw); go_simp; (try with_reducible rfl))
      try simp only [Act.put, List.setIfInBounds_toArray, List.set_cons_zero, List.set_cons_succ]
      refine wpAnyH_ready (rs := [2]) (by kernel_rfl) (by simp) ?_
      refine regCons rfl (fun K hK => ?_)
      go_simp
      refine (HXI.out _ (below_trans hlg4_ (below_drew (yg4_2)))).mono ?_
      rintro e yg5_0 ⟨rfl, hyg5_0⟩
      have hkg5_0 := below_trans (below_drew (yg4_2)) hyg5_0
      refine hK.out _ _ ?_ (fun hS1 => ?_)
      · (refine (fun hB => ⟨hB, cell_keep x0 hB, cell_keep x1 hB, cell_keep x2 hB, cell_keep x3 hB, cell_keep x4 hB, cell_keep x5 hB, cell_keep x6 hB, cell_keep x7 hB, cell_keep x8 hB, cell_keep x9 hB⟩ : Below (yg4_2).heap.size (yg4_2) _ → _) ?_; exact hkg5_0)
      clear hK K hS0
      try simp only [Act.put, List.setIfInBounds_toArray, List.set_cons_zero, List.set_cons_succ]
      refine wpAnyH_ready (rs := [5]) (by kernel_rfl) (by simp) ?_
      refine regCons rfl (fun K hK => ?_)
      go_simp
      refine (HXS.out _ (below_trans hlg4_ (hkg5_0))).mono ?_
      rintro e yg5_1 ⟨rfl, hyg5_1⟩
      have hkg5_1 := below_trans (hkg5_0) hyg5_1
      refine hK.out _ _ ?_ (fun hS2 => ?_)
      · (refine (fun hB => ⟨hB, cell_keep x0 hB, cell_keep x1 hB, cell_keep x2 hB, cell_keep x3 hB, cell_keep x4 hB, cell_keep x5 hB, cell_keep x6 hB, cell_keep x7 hB, cell_keep x8 hB, cell_keep x9 hB⟩ : Below (yg4_2).heap.size (yg4_2) _ → _) ?_; exact hkg5_1)
      clear hK K hS1
      try simp only [Act.put, List.setIfInBounds_toArray, List.set_cons_zero, List.set_cons_succ]
      refine regTake (i := 6) (v := ?vg5_6) rfl (by kernel_rfl) (by kernel_rfl) (by kernel_rfl) (fun _ _ _ h => h) (Or.inl ⟨by rfl, ?hyg5_6⟩) (by assumption) ?_
      case hyg5_6 => (intro w hSw; (try dsimp only at hSw); go_simp; (try with_reducible rfl))
      try simp only [Act.put, List.setIfInBounds_toArray, List.set_cons_zero, List.set_cons_succ]
      refine regTake (i := 7) (v := ?vg5_7) rfl (by kernel_rfl) (by kernel_rfl) (by kernel_rfl) (fun _ _ _ h => h) (Or.inl ⟨by rfl, ?hyg5_7⟩) (by assumption) ?_
      case hyg5_7 => (intro w hSw; (try dsimp only at hSw); go_simp; (try with_reducible rfl))
      try simp only [Act.put, List.setIfInBounds_toArray, List.set_cons_zero, List.set_cons_succ]
      refine wpAnyH_done (by kernel_rfl) ?_ _
      have hlg5_ := below_trans hlg4_ hkg5_1
      replace x0 := cell_keep x0 hkg5_1
      replace x1 := cell_keep x1 hkg5_1
      replace x2 := cell_keep x2 hkg5_1
      replace x3 := cell_keep x3 hkg5_1
      replace x4 := cell_keep x4 hkg5_1
      replace x5 := cell_keep x5 hkg5_1
      replace x6 := cell_keep x6 hkg5_1
      replace x7 := cell_keep x7 hkg5_1
      replace x8 := cell_keep x8 hkg5_1
      replace x9 := cell_keep x9 hkg5_1
      go_wp2_with fail
      go_ret
      exact ⟨rfl, below_trans HBL.out hlg5_⟩
    · have HQ12 := hid (HT1.out rfl)
      have HQ34 := hid (HT2.out rfl)
      go_wp2_with fail
      refine wp_region_held_drew (S := (fun w' => Below (((w2.alloc (Obj.cells #[.int .i64 k4, .slice a4 n4 c4] 25)).alloc (Obj.cells #[.int .i64 k5, .slice a5 n5 c5] 25))).heap.size (((w2.alloc (Obj.cells #[.int .i64 k4, .slice a4 n4 c4] 25)).alloc (Obj.cells #[.int .i64 k5, .slice a5 n5 c5] 25))) w' ∧ w'.cell? ⟨w1.heap.size, 0, none⟩ = some (.int .i64 k1) ∧ w'.cell? ⟨w1.heap.size, 1, none⟩ = some (.slice a1 n1 c1) ∧ w'.cell? ⟨w1.heap.size + 1, 0, none⟩ = some (.int .i64 k2) ∧ w'.cell? ⟨w1.heap.size + 1, 1, none⟩ = some (.slice a2 n2 c2) ∧ w'.cell? ⟨w1.heap.size + 1 + 1, 0, none⟩ = some (.int .i64 k3) ∧ w'.cell? ⟨w1.heap.size + 1 + 1, 1, none⟩ = some (.slice a3 n3 c3) ∧ w'.cell? ⟨w2.heap.size, 0, none⟩ = some (.int .i64 k4) ∧ w'.cell? ⟨w2.heap.size, 1, none⟩ = some (.slice a4 n4 c4) ∧ w'.cell? ⟨w2.heap.size + 1, 0, none⟩ = some (.int .i64 k5) ∧ w'.cell? ⟨w2.heap.size + 1, 1, none⟩ = some (.slice a5 n5 c5))) (by kernel_rfl) ?_ (fun hS0 => ?_)
      · (refine (fun hB => ⟨hB, cell_keep x0 hB, cell_keep x1 hB, cell_keep x2 hB, cell_keep x3 hB, cell_keep x4 hB, cell_keep x5 hB, cell_keep x6 hB, cell_keep x7 hB, cell_keep x8 hB, cell_keep x9 hB⟩ : Below (((w2.alloc (Obj.cells #[.int .i64 k4, .slice a4 n4 c4] 25)).alloc (Obj.cells #[.int .i64 k5, .slice a5 n5 c5] 25))).heap.size (((w2.alloc (Obj.cells #[.int .i64 k4, .slice a4 n4 c4] 25)).alloc (Obj.cells #[.int .i64 k5, .slice a5 n5 c5] 25))) _ → _) ?_; exact below_drew _)
      refine regTake (i := 0) (v := ?vg6_0) rfl (by kernel_rfl) (by kernel_rfl) (by kernel_rfl) (fun _ _ _ h => h) (Or.inl ⟨by rfl, ?hyg6_0⟩) (by assumption) ?_
      case hyg6_0 => (intro w hSw; (try dsimp only at hSw); go_simp; (try with_reducible rfl))
      try simp only [Act.put, List.setIfInBounds_toArray, List.set_cons_zero, List.set_cons_succ]
      refine regTake (i := 1) (v := ?vg6_1) rfl (by kernel_rfl) (by kernel_rfl) (by kernel_rfl) (fun _ _ _ h => h) (Or.inl ⟨by rfl, ?hyg6_1⟩) (by assumption) ?_
      case hyg6_1 => (intro w hSw; (try dsimp only at hSw); go_simp; (try with_reducible rfl))
      try simp only [Act.put, List.setIfInBounds_toArray, List.set_cons_zero, List.set_cons_succ]
      refine regTake (i := 3) (v := ?vg6_3) rfl (by kernel_rfl) (by kernel_rfl) (by kernel_rfl) (fun _ _ _ h => h) (Or.inl ⟨by rfl, ?hyg6_3⟩) (by assumption) ?_
      case hyg6_3 => (intro w hSw; (try dsimp only at hSw); go_simp; (try with_reducible rfl))
      try simp only [Act.put, List.setIfInBounds_toArray, List.set_cons_zero, List.set_cons_succ]
      refine regTake (i := 4) (v := ?vg6_4) rfl (by kernel_rfl) (by kernel_rfl) (by kernel_rfl) (fun _ _ _ h => h) (Or.inl ⟨by rfl, ?hyg6_4⟩) (by assumption) ?_
      case hyg6_4 => (intro w hSw; (try dsimp only at hSw); go_simp; (try with_reducible rfl))
      try simp only [Act.put, List.setIfInBounds_toArray, List.set_cons_zero, List.set_cons_succ]
      refine wpAnyH_ready (rs := [2]) (by kernel_rfl) (by simp) ?_
      refine regCons rfl (fun K hK => ?_)
      go_simp
      refine (HXI.out _ (below_trans h0 (below_drew (((w2.alloc (Obj.cells #[.int .i64 k4, .slice a4 n4 c4] 25)).alloc (Obj.cells #[.int .i64 k5, .slice a5 n5 c5] 25)))))).mono ?_
      rintro e yg6_0 ⟨rfl, hyg6_0⟩
      have hkg6_0 := below_trans (below_drew (((w2.alloc (Obj.cells #[.int .i64 k4, .slice a4 n4 c4] 25)).alloc (Obj.cells #[.int .i64 k5, .slice a5 n5 c5] 25)))) hyg6_0
      refine hK.out _ _ ?_ (fun hS1 => ?_)
      · (refine (fun hB => ⟨hB, cell_keep x0 hB, cell_keep x1 hB, cell_keep x2 hB, cell_keep x3 hB, cell_keep x4 hB, cell_keep x5 hB, cell_keep x6 hB, cell_keep x7 hB, cell_keep x8 hB, cell_keep x9 hB⟩ : Below (((w2.alloc (Obj.cells #[.int .i64 k4, .slice a4 n4 c4] 25)).alloc (Obj.cells #[.int .i64 k5, .slice a5 n5 c5] 25))).heap.size (((w2.alloc (Obj.cells #[.int .i64 k4, .slice a4 n4 c4] 25)).alloc (Obj.cells #[.int .i64 k5, .slice a5 n5 c5] 25))) _ → _) ?_; exact hkg6_0)
      clear hK K hS0
      try simp only [Act.put, List.setIfInBounds_toArray, List.set_cons_zero, List.set_cons_succ]
      refine wpAnyH_ready (rs := [5]) (by kernel_rfl) (by simp) ?_
      refine regCons rfl (fun K hK => ?_)
      go_simp
      refine (HXS.out _ (below_trans h0 (hkg6_0))).mono ?_
      rintro e yg6_1 ⟨rfl, hyg6_1⟩
      have hkg6_1 := below_trans (hkg6_0) hyg6_1
      refine hK.out _ _ ?_ (fun hS2 => ?_)
      · (refine (fun hB => ⟨hB, cell_keep x0 hB, cell_keep x1 hB, cell_keep x2 hB, cell_keep x3 hB, cell_keep x4 hB, cell_keep x5 hB, cell_keep x6 hB, cell_keep x7 hB, cell_keep x8 hB, cell_keep x9 hB⟩ : Below (((w2.alloc (Obj.cells #[.int .i64 k4, .slice a4 n4 c4] 25)).alloc (Obj.cells #[.int .i64 k5, .slice a5 n5 c5] 25))).heap.size (((w2.alloc (Obj.cells #[.int .i64 k4, .slice a4 n4 c4] 25)).alloc (Obj.cells #[.int .i64 k5, .slice a5 n5 c5] 25))) _ → _) ?_; exact hkg6_1)
      clear hK K hS1
      try simp only [Act.put, List.setIfInBounds_toArray, List.set_cons_zero, List.set_cons_succ]
      refine regTake (i := 6) (v := ?vg6_6) rfl (by kernel_rfl) (by kernel_rfl) (by kernel_rfl) (fun _ _ _ h => h) (Or.inl ⟨by rfl, ?hyg6_6⟩) (by assumption) ?_
      case hyg6_6 => (intro w hSw; (try dsimp only at hSw); go_simp; (try with_reducible rfl))
      try simp only [Act.put, List.setIfInBounds_toArray, List.set_cons_zero, List.set_cons_succ]
      refine regTake (i := 7) (v := ?vg6_7) rfl (by kernel_rfl) (by kernel_rfl) (by kernel_rfl) (fun _ _ _ h => h) (Or.inl ⟨by rfl, ?hyg6_7⟩) (by assumption) ?_
      case hyg6_7 => (intro w hSw; (try dsimp only at hSw); go_simp; (try with_reducible rfl))
      try simp only [Act.put, List.setIfInBounds_toArray, List.set_cons_zero, List.set_cons_succ]
      refine regTake (i := 8) (v := ?vg6_8) rfl (by kernel_rfl) (by kernel_rfl) (by kernel_rfl) (fun _ _ _ h => h) (Or.inl ⟨by rfl, ?hyg6_8⟩) (by assumption) ?_
      case hyg6_8 => (intro w hSw; (try dsimp only at hSw); go_simp; (try with_reducible rfl))
      try simp only [Act.put, List.setIfInBounds_toArray, List.set_cons_zero, List.set_cons_succ]
      refine regTake (i := 9) (v := ?vg6_9) rfl (by kernel_rfl) (by kernel_rfl) (by kernel_rfl) (fun _ _ _ h => h) (Or.inl ⟨by rfl, ?hyg6_9⟩) (by assumption) ?_
      case hyg6_9 => (intro w hSw; (try dsimp only at hSw); go_simp; (try with_reducible rfl))
      try simp only [Act.put, List.setIfInBounds_toArray, List.set_cons_zero, List.set_cons_succ]
      refine wpAnyH_ready (rs := [10]) (by kernel_rfl) (by simp) ?_
      refine regCons rfl (fun K hK => ?_)
      go_simp
      refine (HP.out _ (below_trans h0 (hkg6_1))).mono ?_
      rintro e yg6_2 ⟨rfl, hyg6_2⟩
      have hkg6_2 := below_trans (hkg6_1) hyg6_2
      refine hK.out _ _ ?_ (fun hS3 => ?_)
      · (refine (fun hB => ⟨hB, cell_keep x0 hB, cell_keep x1 hB, cell_keep x2 hB, cell_keep x3 hB, cell_keep x4 hB, cell_keep x5 hB, cell_keep x6 hB, cell_keep x7 hB, cell_keep x8 hB, cell_keep x9 hB⟩ : Below (((w2.alloc (Obj.cells #[.int .i64 k4, .slice a4 n4 c4] 25)).alloc (Obj.cells #[.int .i64 k5, .slice a5 n5 c5] 25))).heap.size (((w2.alloc (Obj.cells #[.int .i64 k4, .slice a4 n4 c4] 25)).alloc (Obj.cells #[.int .i64 k5, .slice a5 n5 c5] 25))) _ → _) ?_; exact hkg6_2)
      clear hK K hS2
      try simp only [Act.put, List.setIfInBounds_toArray, List.set_cons_zero, List.set_cons_succ]
      refine regTake (i := 11) (v := ?vg6_11) rfl (by kernel_rfl) (by kernel_rfl) (by kernel_rfl) (fun _ _ _ h => h) (Or.inl ⟨by rfl, ?hyg6_11⟩) (by assumption) ?_
      case hyg6_11 => (intro w hSw; (try dsimp only at hSw); go_simp; (try with_reducible rfl))
      try simp only [Act.put, List.setIfInBounds_toArray, List.set_cons_zero, List.set_cons_succ]
      refine regTake (i := 12) (v := .bool false) rfl (by kernel_rfl) (by kernel_rfl) (by kernel_rfl) (fun _ _ _ h => h) (Or.inl ⟨by rfl, ?hyg6_12⟩) (by assumption) ?_
      case hyg6_12 => (intro w hSw; (try dsimp only at hSw); go_simp; (try with_reducible rfl))
      try simp only [Act.put, List.setIfInBounds_toArray, List.set_cons_zero, List.set_cons_succ]
      refine wpAnyH_done (by kernel_rfl) ?_ _
      have hlg6_ := below_trans h0 hkg6_2
      replace x0 := cell_keep x0 hkg6_2
      replace x1 := cell_keep x1 hkg6_2
      replace x2 := cell_keep x2 hkg6_2
      replace x3 := cell_keep x3 hkg6_2
      replace x4 := cell_keep x4 hkg6_2
      replace x5 := cell_keep x5 hkg6_2
      replace x6 := cell_keep x6 hkg6_2
      replace x7 := cell_keep x7 hkg6_2
      replace x8 := cell_keep x8 hkg6_2
      replace x9 := cell_keep x9 hkg6_2
      cases q1
      · cases q3
        · go_wp2_with fail
          refine (HQ1.out _ hlg6_).mono ?_
          rintro e z13 ⟨rfl, hz13⟩
          have hc13 := below_trans hlg6_ hz13
          replace x0 := cell_keep x0 hz13
          replace x1 := cell_keep x1 hz13
          replace x2 := cell_keep x2 hz13
          replace x3 := cell_keep x3 hz13
          replace x4 := cell_keep x4 hz13
          replace x5 := cell_keep x5 hz13
          replace x6 := cell_keep x6 hz13
          replace x7 := cell_keep x7 hz13
          replace x8 := cell_keep x8 hz13
          replace x9 := cell_keep x9 hz13
          go_wp2_with fail
          refine (HQ3.out _ hc13).mono ?_
          rintro e z14 ⟨rfl, hz14⟩
          have hc14 := below_trans hc13 hz14
          replace x0 := cell_keep x0 hz14
          replace x1 := cell_keep x1 hz14
          replace x2 := cell_keep x2 hz14
          replace x3 := cell_keep x3 hz14
          replace x4 := cell_keep x4 hz14
          replace x5 := cell_keep x5 hz14
          replace x6 := cell_keep x6 hz14
          replace x7 := cell_keep x7 hz14
          replace x8 := cell_keep x8 hz14
          replace x9 := cell_keep x9 hz14
          go_wp2_with fail
          go_ret
          exact ⟨rfl, below_trans HBL.out hc14⟩
        · have e4 := HQ34.out rfl
          subst e4
          go_wp2_with fail
          refine (HQ1.out _ hlg6_).mono ?_
          rintro e z15 ⟨rfl, hz15⟩
          have hc15 := below_trans hlg6_ hz15
          replace x0 := cell_keep x0 hz15
          replace x1 := cell_keep x1 hz15
          replace x2 := cell_keep x2 hz15
          replace x3 := cell_keep x3 hz15
          replace x4 := cell_keep x4 hz15
          replace x5 := cell_keep x5 hz15
          replace x6 := cell_keep x6 hz15
          replace x7 := cell_keep x7 hz15
          replace x8 := cell_keep x8 hz15
          replace x9 := cell_keep x9 hz15
          go_wp2_with fail
          refine (HQ3.out _ hc15).mono ?_
          rintro e z16 ⟨rfl, hz16⟩
          have hc16 := below_trans hc15 hz16
          replace x0 := cell_keep x0 hz16
          replace x1 := cell_keep x1 hz16
          replace x2 := cell_keep x2 hz16
          replace x3 := cell_keep x3 hz16
          replace x4 := cell_keep x4 hz16
          replace x5 := cell_keep x5 hz16
          replace x6 := cell_keep x6 hz16
          replace x7 := cell_keep x7 hz16
          replace x8 := cell_keep x8 hz16
          replace x9 := cell_keep x9 hz16
          go_wp2_with fail
          refine (HQ4.out _ hc16).mono ?_
          rintro e z17 ⟨rfl, hz17⟩
          have hc17 := below_trans hc16 hz17
          replace x0 := cell_keep x0 hz17
          replace x1 := cell_keep x1 hz17
          replace x2 := cell_keep x2 hz17
          replace x3 := cell_keep x3 hz17
          replace x4 := cell_keep x4 hz17
          replace x5 := cell_keep x5 hz17
          replace x6 := cell_keep x6 hz17
          replace x7 := cell_keep x7 hz17
          replace x8 := cell_keep x8 hz17
          replace x9 := cell_keep x9 hz17
          go_wp2_with fail
          go_ret
          exact ⟨rfl, below_trans HBL.out hc17⟩
      · have e2 := HQ12.out rfl
        subst e2
        cases q3
        · go_wp2_with fail
          refine (HQ1.out _ hlg6_).mono ?_
          rintro e z18 ⟨rfl, hz18⟩
          have hc18 := below_trans hlg6_ hz18
          replace x0 := cell_keep x0 hz18
          replace x1 := cell_keep x1 hz18
          replace x2 := cell_keep x2 hz18
          replace x3 := cell_keep x3 hz18
          replace x4 := cell_keep x4 hz18
          replace x5 := cell_keep x5 hz18
          replace x6 := cell_keep x6 hz18
          replace x7 := cell_keep x7 hz18
          replace x8 := cell_keep x8 hz18
          replace x9 := cell_keep x9 hz18
          go_wp2_with fail
          refine (HQ2.out _ hc18).mono ?_
          rintro e z19 ⟨rfl, hz19⟩
          have hc19 := below_trans hc18 hz19
          replace x0 := cell_keep x0 hz19
          replace x1 := cell_keep x1 hz19
          replace x2 := cell_keep x2 hz19
          replace x3 := cell_keep x3 hz19
          replace x4 := cell_keep x4 hz19
          replace x5 := cell_keep x5 hz19
          replace x6 := cell_keep x6 hz19
          replace x7 := cell_keep x7 hz19
          replace x8 := cell_keep x8 hz19
          replace x9 := cell_keep x9 hz19
          go_wp2_with fail
          refine (HQ3.out _ hc19).mono ?_
          rintro e z20 ⟨rfl, hz20⟩
          have hc20 := below_trans hc19 hz20
          replace x0 := cell_keep x0 hz20
          replace x1 := cell_keep x1 hz20
          replace x2 := cell_keep x2 hz20
          replace x3 := cell_keep x3 hz20
          replace x4 := cell_keep x4 hz20
          replace x5 := cell_keep x5 hz20
          replace x6 := cell_keep x6 hz20
          replace x7 := cell_keep x7 hz20
          replace x8 := cell_keep x8 hz20
          replace x9 := cell_keep x9 hz20
          go_wp2_with fail
          go_ret
          exact ⟨rfl, below_trans HBL.out hc20⟩
        · have e4 := HQ34.out rfl
          subst e4
          go_wp2_with fail
          refine (HQ1.out _ hlg6_).mono ?_
          rintro e z21 ⟨rfl, hz21⟩
          have hc21 := below_trans hlg6_ hz21
          replace x0 := cell_keep x0 hz21
          replace x1 := cell_keep x1 hz21
          replace x2 := cell_keep x2 hz21
          replace x3 := cell_keep x3 hz21
          replace x4 := cell_keep x4 hz21
          replace x5 := cell_keep x5 hz21
          replace x6 := cell_keep x6 hz21
          replace x7 := cell_keep x7 hz21
          replace x8 := cell_keep x8 hz21
          replace x9 := cell_keep x9 hz21
          go_wp2_with fail
          refine (HQ2.out _ hc21).mono ?_
          rintro e z22 ⟨rfl, hz22⟩
          have hc22 := below_trans hc21 hz22
          replace x0 := cell_keep x0 hz22
          replace x1 := cell_keep x1 hz22
          replace x2 := cell_keep x2 hz22
          replace x3 := cell_keep x3 hz22
          replace x4 := cell_keep x4 hz22
          replace x5 := cell_keep x5 hz22
          replace x6 := cell_keep x6 hz22
          replace x7 := cell_keep x7 hz22
          replace x8 := cell_keep x8 hz22
          replace x9 := cell_keep x9 hz22
          go_wp2_with fail
          refine (HQ3.out _ hc22).mono ?_
          rintro e z23 ⟨rfl, hz23⟩
          have hc23 := below_trans hc22 hz23
          replace x0 := cell_keep x0 hz23
          replace x1 := cell_keep x1 hz23
          replace x2 := cell_keep x2 hz23
          replace x3 := cell_keep x3 hz23
          replace x4 := cell_keep x4 hz23
          replace x5 := cell_keep x5 hz23
          replace x6 := cell_keep x6 hz23
          replace x7 := cell_keep x7 hz23
          replace x8 := cell_keep x8 hz23
          replace x9 := cell_keep x9 hz23
          go_wp2_with fail
          refine (HQ4.out _ hc23).mono ?_
          rintro e z24 ⟨rfl, hz24⟩
          have hc24 := below_trans hc23 hz24
          replace x0 := cell_keep x0 hz24
          replace x1 := cell_keep x1 hz24
          replace x2 := cell_keep x2 hz24
          replace x3 := cell_keep x3 hz24
          replace x4 := cell_keep x4 hz24
          replace x5 := cell_keep x5 hz24
          replace x6 := cell_keep x6 hz24
          replace x7 := cell_keep x7 hz24
          replace x8 := cell_keep x8 hz24
          replace x9 := cell_keep x9 hz24
          go_wp2_with fail
          go_ret
          exact ⟨rfl, below_trans HBL.out hc24⟩
end Go.Proofs.Ythnicmgllhocgaa
