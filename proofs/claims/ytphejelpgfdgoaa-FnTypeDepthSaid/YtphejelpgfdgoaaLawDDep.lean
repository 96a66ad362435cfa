/- The law on TypeDepth: it returns true and writes nothing that was there. -/
import Derived.Test.YtphejelpgfdgoaaDr8
import Derived.Test.YtphejelpgfdgoaaDpP
import Derived.Test.YtphejelpgfdgoaaReg
import Derived.Test.YtphejelpgfdgoaaRaw
import Derived.Test.YtphejelpgfdgoaaAny
import Derived.Test.YtphejelpgfdgoaaStat
import Derived.Deep.RegionHeld3
namespace Go.Proofs.Ytphejelpgfdgoaa
open Go.RowKit

theorem dep_pure (a b : Ty) (hp : precOf a b = true) : vld b = true ∧ depOf b ≤ depOf a ∧ depOf a ≤ 4 ∧ 0 ≤ anyOf b ∧ (anyOf b = 0 → tyEq a b = true) := by
  simp only [precOf, Bool.and_eq_true] at hp
  obtain ⟨⟨ha, hb⟩, h⟩ := hp
  obtain ⟨h1, h2⟩ := prec_dep 4 a b ha hb h
  have h3 := dep_shp 4 a ha
  have h4 := (cntAny_bd b).1
  simp only [depOf, anyOf, ha, hb, if_true]
  exact ⟨trivial, h1, h3, h4, fun h0 => by rw [h2 h0]; exact tyEq_refl b⟩

theorem three7 {w wr : World} {o1 o2 o3 : Obj} (h : Below (((w.alloc o1).alloc o2).alloc o3).heap.size (((w.alloc o1).alloc o2).alloc o3) wr) : wr.heap[w.heap.size]? = some o1 ∧ wr.heap[w.heap.size + 1]? = some o2 ∧ wr.heap[w.heap.size + 1 + 1]? = some o3 := by
  obtain ⟨h1, h2⟩ := two9 (below_trans ((Below.refl ((w.alloc o1).alloc o2).heap.size ((w.alloc o1).alloc o2)).alloc (Nat.le_refl _) o3) h)
  have hs : ((w.alloc o1).alloc o2).heap.size = w.heap.size + 1 + 1 := by simp
  refine ⟨h1, h2, (h.block _ (by simp)).trans ?_⟩
  rw [← hs]
  exact alloc_new _ _

set_option linter.unusedSimpArgs false in
set_option linter.unusedVariables false in
set_option maxRecDepth 100000 in
set_option maxHeartbeats 8000000 in
theorem lawDDep (a0 : Option Addr) (n0 cap0 : Nat) (w : World) (hB : BytA w a0 n0) (hn : n0 ≤ cap0) (hm : cap0 ≤ maxLen) :
    Calls Try.prog 3 #[.slice a0 n0 cap0] w fun e w' => e = .returned (.bool true) ∧ Below w.heap.size w w' := by
  by_cases hl : (n0 : Int) > 1048576
  · clear hB
    go_enter Try.func3, Try.ntmps3
    go_wp2_with fail
    go_ret
    exact ⟨rfl, Below.refl _ _⟩
  have HD := hid (drawChain_any a0 n0 cap0 w hB hn hm)
  clear hB
  go_enter Try.func3, Try.ntmps3
  go_wp2_with fail
  refine HD.out.mono ?_
  rintro e w1 ⟨t1, t2, t3, v1, v2, v3, f1, f2, f3, rfl, h1, h2, h3, ⟨hcn, hz1, hz2⟩, hb⟩
  obtain ⟨k1, n1, a1, c1, rfl⟩ := h1.agg
  obtain ⟨k2, n2, a2, c2, rfl⟩ := h2.agg
  obtain ⟨k3, n3, a3, c3, rfl⟩ := h3.agg
  have hal : Below w1.heap.size w1 (((w1.alloc (Obj.cells #[.int .i64 k1, .slice a1 n1 c1] 25)).alloc (Obj.cells #[.int .i64 k2, .slice a2 n2 c2] 25)).alloc (Obj.cells #[.int .i64 k3, .slice a3 n3 c3] 25)) := (((Below.refl _ _).alloc (Nat.le_refl _) _).alloc (by simp) _).alloc (by simp; omega) _
  have HCN := hid hcn
  have HR1 := hid (show ∀ x ∈ f1, Raw (((w1.alloc (Obj.cells #[.int .i64 k1, .slice a1 n1 c1] 25)).alloc (Obj.cells #[.int .i64 k2, .slice a2 n2 c2] 25)).alloc (Obj.cells #[.int .i64 k3, .slice a3 n3 c3] 25)) x from fun x hx => Raw.below ⟨h1.laid x hx, hz1 x hx⟩ hal)
  have HR2 := hid (show ∀ x ∈ f2, Raw (((w1.alloc (Obj.cells #[.int .i64 k1, .slice a1 n1 c1] 25)).alloc (Obj.cells #[.int .i64 k2, .slice a2 n2 c2] 25)).alloc (Obj.cells #[.int .i64 k3, .slice a3 n3 c3] 25)) x from fun x hx => Raw.below ⟨h2.laid x hx, hz2 x hx⟩ hal)
  have HBL := hid (below_trans hb hal)
  have H1 := hid (h1.below hal)
  have H2 := hid (h2.below hal)
  obtain ⟨e1, e2, e3⟩ := three7 (Below.refl ((((w1.alloc (Obj.cells #[.int .i64 k1, .slice a1 n1 c1] 25)).alloc (Obj.cells #[.int .i64 k2, .slice a2 n2 c2] 25)).alloc (Obj.cells #[.int .i64 k3, .slice a3 n3 c3] 25))).heap.size (((w1.alloc (Obj.cells #[.int .i64 k1, .slice a1 n1 c1] 25)).alloc (Obj.cells #[.int .i64 k2, .slice a2 n2 c2] 25)).alloc (Obj.cells #[.int .i64 k3, .slice a3 n3 c3] 25)))
  have x0 : ((((w1.alloc (Obj.cells #[.int .i64 k1, .slice a1 n1 c1] 25)).alloc (Obj.cells #[.int .i64 k2, .slice a2 n2 c2] 25)).alloc (Obj.cells #[.int .i64 k3, .slice a3 n3 c3] 25))).cell? ⟨w1.heap.size, 0, none⟩ = some (.int .i64 k1) := by rw [cell_of_block e1]; rfl
  have x1 : ((((w1.alloc (Obj.cells #[.int .i64 k1, .slice a1 n1 c1] 25)).alloc (Obj.cells #[.int .i64 k2, .slice a2 n2 c2] 25)).alloc (Obj.cells #[.int .i64 k3, .slice a3 n3 c3] 25))).cell? ⟨w1.heap.size, 1, none⟩ = some (.slice a1 n1 c1) := by rw [cell_of_block e1]; rfl
  have x2 : ((((w1.alloc (Obj.cells #[.int .i64 k1, .slice a1 n1 c1] 25)).alloc (Obj.cells #[.int .i64 k2, .slice a2 n2 c2] 25)).alloc (Obj.cells #[.int .i64 k3, .slice a3 n3 c3] 25))).cell? ⟨w1.heap.size + 1, 0, none⟩ = some (.int .i64 k2) := by rw [cell_of_block e2]; rfl
  have x3 : ((((w1.alloc (Obj.cells #[.int .i64 k1, .slice a1 n1 c1] 25)).alloc (Obj.cells #[.int .i64 k2, .slice a2 n2 c2] 25)).alloc (Obj.cells #[.int .i64 k3, .slice a3 n3 c3] 25))).cell? ⟨w1.heap.size + 1, 1, none⟩ = some (.slice a2 n2 c2) := by rw [cell_of_block e2]; rfl
  have h0 := Below.refl ((((w1.alloc (Obj.cells #[.int .i64 k1, .slice a1 n1 c1] 25)).alloc (Obj.cells #[.int .i64 k2, .slice a2 n2 c2] 25)).alloc (Obj.cells #[.int .i64 k3, .slice a3 n3 c3] 25))).heap.size (((w1.alloc (Obj.cells #[.int .i64 k1, .slice a1 n1 c1] 25)).alloc (Obj.cells #[.int .i64 k2, .slice a2 n2 c2] 25)).alloc (Obj.cells #[.int .i64 k3, .slice a3 n3 c3] 25))
  have HN := hid (fun (W : World) (h : Below ((((w1.alloc (Obj.cells #[.int .i64 k1, .slice a1 n1 c1] 25)).alloc (Obj.cells #[.int .i64 k2, .slice a2 n2 c2] 25)).alloc (Obj.cells #[.int .i64 k3, .slice a3 n3 c3] 25))).heap.size (((w1.alloc (Obj.cells #[.int .i64 k1, .slice a1 n1 c1] 25)).alloc (Obj.cells #[.int .i64 k2, .slice a2 n2 c2] 25)).alloc (Obj.cells #[.int .i64 k3, .slice a3 n3 c3] 25)) W) => implTypeDepth t1 _ _ W (H1.out.below h) (by have := HCN.out; omega))
  have HNS := hid (fun (W : World) (h : Below ((((w1.alloc (Obj.cells #[.int .i64 k1, .slice a1 n1 c1] 25)).alloc (Obj.cells #[.int .i64 k2, .slice a2 n2 c2] 25)).alloc (Obj.cells #[.int .i64 k3, .slice a3 n3 c3] 25))).heap.size (((w1.alloc (Obj.cells #[.int .i64 k1, .slice a1 n1 c1] 25)).alloc (Obj.cells #[.int .i64 k2, .slice a2 n2 c2] 25)).alloc (Obj.cells #[.int .i64 k3, .slice a3 n3 c3] 25)) W) => specTypeDepth t1 _ _ W (H1.out.below h) (by have := HCN.out; omega))
  have HCI := hid (fun (W : World) (h : Below ((((w1.alloc (Obj.cells #[.int .i64 k1, .slice a1 n1 c1] 25)).alloc (Obj.cells #[.int .i64 k2, .slice a2 n2 c2] 25)).alloc (Obj.cells #[.int .i64 k3, .slice a3 n3 c3] 25))).heap.size (((w1.alloc (Obj.cells #[.int .i64 k1, .slice a1 n1 c1] 25)).alloc (Obj.cells #[.int .i64 k2, .slice a2 n2 c2] 25)).alloc (Obj.cells #[.int .i64 k3, .slice a3 n3 c3] 25)) W) => implCountAny t1 _ _ W (H1.out.below h) (by have := HCN.out; omega))
  have HCS := hid (fun (W : World) (h : Below ((((w1.alloc (Obj.cells #[.int .i64 k1, .slice a1 n1 c1] 25)).alloc (Obj.cells #[.int .i64 k2, .slice a2 n2 c2] 25)).alloc (Obj.cells #[.int .i64 k3, .slice a3 n3 c3] 25))).heap.size (((w1.alloc (Obj.cells #[.int .i64 k1, .slice a1 n1 c1] 25)).alloc (Obj.cells #[.int .i64 k2, .slice a2 n2 c2] 25)).alloc (Obj.cells #[.int .i64 k3, .slice a3 n3 c3] 25)) W) => specCountAny t1 _ _ W (H1.out.below h) (by have := HCN.out; omega))
  have HP := hid (fun (W : World) (h : Below ((((w1.alloc (Obj.cells #[.int .i64 k1, .slice a1 n1 c1] 25)).alloc (Obj.cells #[.int .i64 k2, .slice a2 n2 c2] 25)).alloc (Obj.cells #[.int .i64 k3, .slice a3 n3 c3] 25))).heap.size (((w1.alloc (Obj.cells #[.int .i64 k1, .slice a1 n1 c1] 25)).alloc (Obj.cells #[.int .i64 k2, .slice a2 n2 c2] 25)).alloc (Obj.cells #[.int .i64 k3, .slice a3 n3 c3] 25)) W) => implPrecise t1 t2 _ _ _ _ W (H1.out.below h) (H2.out.below h))
  have HDBC := hid (fun (hv : vld t2 = true) => hid (fun (W : World) (h : Below ((((w1.alloc (Obj.cells #[.int .i64 k1, .slice a1 n1 c1] 25)).alloc (Obj.cells #[.int .i64 k2, .slice a2 n2 c2] 25)).alloc (Obj.cells #[.int .i64 k3, .slice a3 n3 c3] 25))).heap.size (((w1.alloc (Obj.cells #[.int .i64 k1, .slice a1 n1 c1] 25)).alloc (Obj.cells #[.int .i64 k2, .slice a2 n2 c2] 25)).alloc (Obj.cells #[.int .i64 k3, .slice a3 n3 c3] 25)) W) => implTypeDepth t2 _ _ W (H2.out.below h) (by have := cnt_shp4 hv; omega)))
  have HCBC := hid (fun (hv : vld t2 = true) => hid (fun (W : World) (h : Below ((((w1.alloc (Obj.cells #[.int .i64 k1, .slice a1 n1 c1] 25)).alloc (Obj.cells #[.int .i64 k2, .slice a2 n2 c2] 25)).alloc (Obj.cells #[.int .i64 k3, .slice a3 n3 c3] 25))).heap.size (((w1.alloc (Obj.cells #[.int .i64 k1, .slice a1 n1 c1] 25)).alloc (Obj.cells #[.int .i64 k2, .slice a2 n2 c2] 25)).alloc (Obj.cells #[.int .i64 k3, .slice a3 n3 c3] 25)) W) => implCountAny t2 _ _ W (H2.out.below h) (by have := cnt_shp4 hv; omega)))
  have HSM := hid (fun (W : World) (h : Below ((((w1.alloc (Obj.cells #[.int .i64 k1, .slice a1 n1 c1] 25)).alloc (Obj.cells #[.int .i64 k2, .slice a2 n2 c2] 25)).alloc (Obj.cells #[.int .i64 k3, .slice a3 n3 c3] 25))).heap.size (((w1.alloc (Obj.cells #[.int .i64 k1, .slice a1 n1 c1] 25)).alloc (Obj.cells #[.int .i64 k2, .slice a2 n2 c2] 25)).alloc (Obj.cells #[.int .i64 k3, .slice a3 n3 c3] 25)) W) => implTypeSame t1 t2 _ _ _ _ W (by have := HCN.out; omega) (H1.out.below h) (H2.out.below h) (fun x hx => (HR1.out x hx).below h) (fun x hx => (HR2.out x hx).below h))
  have HTT := hid (dep_pure t1 t2)
  generalize precOf t1 t2 = p at *
  generalize depOf t1 = na at *
  generalize depOf t2 = nb at *
  generalize anyOf t1 = ca at *
  generalize anyOf t2 = cb at *
  generalize tyEq t1 t2 = ee at *
  clear h1 h2 h3 hb hal H1 H2 e1 e2 e3 hcn hz1 hz2 HR1 HR2
  go_wp2_with fail
  refine (HN.out _ h0).mono ?_
  rintro e w2 ⟨rfl, hb2⟩
  have HB2 := hid hb2
  replace x0 := cell_keep x0 hb2
  replace x1 := cell_keep x1 hb2
  replace x2 := cell_keep x2 hb2
  replace x3 := cell_keep x3 hb2
  clear h0 hb2 HN HD
  cases p
  · go_wp2_with fail
    refine wp_region_held_drew (S := (fun w' => Below (w2).heap.size (w2) w' ∧ w'.cell? ⟨w1.heap.size, 0, none⟩ = some (.int .i64 k1) ∧ w'.cell? ⟨w1.heap.size, 1, none⟩ = some (.slice a1 n1 c1) ∧ w'.cell? ⟨w1.heap.size + 1, 0, none⟩ = some (.int .i64 k2) ∧ w'.cell? ⟨w1.heap.size + 1, 1, none⟩ = some (.slice a2 n2 c2))) (by kernel_rfl) ?_ (fun hS0 => ?_)
    · (refine (fun hB => ⟨hB, cell_keep x0 hB, cell_keep x1 hB, cell_keep x2 hB, cell_keep x3 hB⟩ : Below (w2).heap.size (w2) _ → _) ?_; exact below_drew _)
    refine regTake (i := 0) (v := ?vg1_0) rfl (by kernel_rfl) (by kernel_rfl) (by kernel_rfl) (fun _ _ _ h => h) (Or.inl ⟨by rfl, ?hyg1_0⟩) (by assumption) ?_
    case hyg1_0 => (intro w hSw; (try dsimp only at hSw); go_simp; (try with_reducible rfl))
    try simp only [Act.put, List.setIfInBounds_toArray, List.set_cons_zero, List.set_cons_succ]
    refine regTake (i := 1) (v := ?vg1_1) rfl (by kernel_rfl) (by kernel_rfl) (by kernel_rfl) (fun _ _ _ h => h) (Or.inl ⟨by rfl, ?hyg1_1⟩) (by assumption) ?_
    case hyg1_1 => (intro w hSw; (try dsimp only at hSw); go_simp; (try with_reducible rfl))
    try simp only [Act.put, List.setIfInBounds_toArray, List.set_cons_zero, List.set_cons_succ]
    refine wpAnyH_ready (rs := [2]) (by kernel_rfl) (by simp) ?_
    refine regCons rfl (fun K hK => ?_)
    go_simp
    refine (HNS.out _ (below_trans HB2.out (below_drew (w2)))).mono ?_
    rintro e yg1_0 ⟨rfl, hyg1_0⟩
    have hkg1_0 := below_trans (below_drew (w2)) hyg1_0
    refine hK.out _ _ ?_ (fun hS1 => ?_)
    · (refine (fun hB => ⟨hB, cell_keep x0 hB, cell_keep x1 hB, cell_keep x2 hB, cell_keep x3 hB⟩ : Below (w2).heap.size (w2) _ → _) ?_; exact hkg1_0)
    clear hK K hS0
    try simp only [Act.put, List.setIfInBounds_toArray, List.set_cons_zero, List.set_cons_succ]
    refine regTake (i := 3) (v := ?vg1_3) rfl (by kernel_rfl) (by kernel_rfl) (by kernel_rfl) (fun _ _ _ h => h) (Or.inl ⟨by rfl, ?hyg1_3⟩) (by assumption) ?_
    case hyg1_3 => (intro w hSw; (try dsimp only at hSw); go_simp; (try with_reducible rfl))
    try simp only [Act.put, List.setIfInBounds_toArray, List.set_cons_zero, List.set_cons_succ]
    refine regTake (i := 4) (v := ?vg1_4) rfl (by kernel_rfl) (by kernel_rfl) (by kernel_rfl) (fun _ _ _ h => h) (Or.inl ⟨by rfl, ?hyg1_4⟩) (by assumption) ?_
    case hyg1_4 => (intro w hSw; (try dsimp only at hSw); go_simp; (try with_reducible rfl))
    try simp only [Act.put, List.setIfInBounds_toArray, List.set_cons_zero, List.set_cons_succ]
    refine regTake (i := 5) (v := ?vg1_5) rfl (by kernel_rfl) (by kernel_rfl) (by kernel_rfl) (fun _ _ _ h => h) (Or.inl ⟨by rfl, ?hyg1_5⟩) (by assumption) ?_
    case hyg1_5 => (intro w hSw; (try dsimp only at hSw); go_simp; (try with_reducible rfl))
    try simp only [Act.put, List.setIfInBounds_toArray, List.set_cons_zero, List.set_cons_succ]
    refine regTake (i := 7) (v := ?vg1_7) rfl (by kernel_rfl) (by kernel_rfl) (by kernel_rfl) (fun _ _ _ h => h) (Or.inl ⟨by rfl, ?hyg1_7⟩) (by assumption) ?_
    case hyg1_7 => (intro w hSw; (try dsimp only at hSw); go_simp; (try with_reducible rfl))
    try simp only [Act.put, List.setIfInBounds_toArray, List.set_cons_zero, List.set_cons_succ]
    refine wpAnyH_ready (rs := [6]) (by kernel_rfl) (by simp) ?_
    refine regCons rfl (fun K hK => ?_)
    go_simp
    refine (HCI.out _ (below_trans HB2.out (hkg1_0))).mono ?_
    rintro e yg1_1 ⟨rfl, hyg1_1⟩
    have hkg1_1 := below_trans (hkg1_0) hyg1_1
    refine hK.out _ _ ?_ (fun hS2 => ?_)
    · (refine (fun hB => ⟨hB, cell_keep x0 hB, cell_keep x1 hB, cell_keep x2 hB, cell_keep x3 hB⟩ : Below (w2).heap.size (w2) _ → _) ?_; exact hkg1_1)
    clear hK K hS1
    try simp only [Act.put, List.setIfInBounds_toArray, List.set_cons_zero, List.set_cons_succ]
    refine wpAnyH_ready (rs := [8]) (by kernel_rfl) (by simp) ?_
    refine regCons rfl (fun K hK => ?_)
    go_simp
    refine (HCS.out _ (below_trans HB2.out (hkg1_1))).mono ?_
    rintro e yg1_2 ⟨rfl, hyg1_2⟩
    have hkg1_2 := below_trans (hkg1_1) hyg1_2
    refine hK.out _ _ ?_ (fun hS3 => ?_)
    · (refine (fun hB => ⟨hB, cell_keep x0 hB, cell_keep x1 hB, cell_keep x2 hB, cell_keep x3 hB⟩ : Below (w2).heap.size (w2) _ → _) ?_; exact hkg1_2)
    clear hK K hS2
    try simp only [Act.put, List.setIfInBounds_toArray, List.set_cons_zero, List.set_cons_succ]
    refine regTake (i := 9) (v := ?vg1_9) rfl (by kernel_rfl) (by kernel_rfl) (by kernel_rfl) (fun _ _ _ h => h) (Or.inl ⟨by rfl, ?hyg1_9⟩) (by assumption) ?_
    case hyg1_9 => (intro w hSw; (try dsimp only at hSw); go_simp; (try with_reducible rfl))
    try simp only [Act.put, List.setIfInBounds_toArray, List.set_cons_zero, List.set_cons_succ]
    refine regTake (i := 10) (v := .bool false) rfl (by kernel_rfl) (by kernel_rfl) (by kernel_rfl) (fun _ _ _ h => h) (Or.inl ⟨by rfl, ?hyg1_10⟩) (by assumption) ?_
    case hyg1_10 => (intro w hSw; (try dsimp only at hSw); go_simp; (try with_reducible rfl))
    try simp only [Act.put, List.setIfInBounds_toArray, List.set_cons_zero, List.set_cons_succ]
    refine regTake (i := 11) (v := ?vg1_11) rfl (by kernel_rfl) (by kernel_rfl) (by kernel_rfl) (fun _ _ _ h => h) (Or.inl ⟨by rfl, ?hyg1_11⟩) (by assumption) ?_
    case hyg1_11 => (intro w hSw; (try dsimp only at hSw); go_simp; (try with_reducible rfl))
    try simp only [Act.put, List.setIfInBounds_toArray, List.set_cons_zero, List.set_cons_succ]
    refine regTake (i := 12) (v := ?vg1_12) rfl (by kernel_rfl) (by kernel_rfl) (by kernel_rfl) (fun _ _ _ h => h) (Or.inl ⟨by rfl, ?hyg1_12⟩) (by assumption) ?_
    case hyg1_12 => (intro w hSw; (try dsimp only at hSw); go_simp; (try with_reducible rfl))
    try simp only [Act.put, List.setIfInBounds_toArray, List.set_cons_zero, List.set_cons_succ]
    refine regTake (i := 13) (v := ?vg1_13) rfl (by kernel_rfl) (by kernel_rfl) (by kernel_rfl) (fun _ _ _ h => h) (Or.inl ⟨by rfl, ?hyg1_13⟩) (by assumption) ?_
    case hyg1_13 => (intro w hSw; (try dsimp only at hSw); go_simp; (try with_reducible rfl))
    try simp only [Act.put, List.setIfInBounds_toArray, List.set_cons_zero, List.set_cons_succ]
    refine wpAnyH_ready (rs := [14]) (by kernel_rfl) (by simp) ?_
    refine regCons rfl (fun K hK => ?_)
    go_simp
    refine (HP.out _ (below_trans HB2.out (hkg1_2))).mono ?_
    rintro e yg1_3 ⟨rfl, hyg1_3⟩
    have hkg1_3 := below_trans (hkg1_2) hyg1_3
    refine hK.out _ _ ?_ (fun hS4 => ?_)
    · (refine (fun hB => ⟨hB, cell_keep x0 hB, cell_keep x1 hB, cell_keep x2 hB, cell_keep x3 hB⟩ : Below (w2).heap.size (w2) _ → _) ?_; exact hkg1_3)
    clear hK K hS3
    try simp only [Act.put, List.setIfInBounds_toArray, List.set_cons_zero, List.set_cons_succ]
    refine regTake (i := 15) (v := ?vg1_15) rfl (by kernel_rfl) (by kernel_rfl) (by kernel_rfl) (fun _ _ _ h => h) (Or.inl ⟨by rfl, ?hyg1_15⟩) (by assumption) ?_
    case hyg1_15 => (intro w hSw; (try dsimp only at hSw); go_simp; (try with_reducible rfl))
    try simp only [Act.put, List.setIfInBounds_toArray, List.set_cons_zero, List.set_cons_succ]
    refine regTake (i := 16) (v := .bool true) rfl (by kernel_rfl) (by kernel_rfl) (by kernel_rfl) (fun _ _ _ h => h) (Or.inl ⟨by rfl, ?hyg1_16⟩) (by assumption) ?_
    case hyg1_16 => (intro w hSw; (try dsimp only at hSw); go_simp; (try with_reducible rfl))
    try simp only [Act.put, List.setIfInBounds_toArray, List.set_cons_zero, List.set_cons_succ]
    refine wpAnyH_done (by kernel_rfl) ?_ _
    have hlg1_ := below_trans HB2.out hkg1_3
    replace x0 := cell_keep x0 hkg1_3
    replace x1 := cell_keep x1 hkg1_3
    replace x2 := cell_keep x2 hkg1_3
    replace x3 := cell_keep x3 hkg1_3
    go_wp2_with fail
    refine wp_region_held_drew (S := (fun w' => Below (yg1_3).heap.size (yg1_3) w' ∧ w'.cell? ⟨w1.heap.size, 0, none⟩ = some (.int .i64 k1) ∧ w'.cell? ⟨w1.heap.size, 1, none⟩ = some (.slice a1 n1 c1) ∧ w'.cell? ⟨w1.heap.size + 1, 0, none⟩ = some (.int .i64 k2) ∧ w'.cell? ⟨w1.heap.size + 1, 1, none⟩ = some (.slice a2 n2 c2))) (by kernel_rfl) ?_ (fun hS0 => ?_)
    · (refine (fun hB => ⟨hB, cell_keep x0 hB, cell_keep x1 hB, cell_keep x2 hB, cell_keep x3 hB⟩ : Below (yg1_3).heap.size (yg1_3) _ → _) ?_; exact below_drew _)
    refine regTake (i := 0) (v := ?vg2_0) rfl (by kernel_rfl) (by kernel_rfl) (by kernel_rfl) (fun _ _ _ h => h) (Or.inl ⟨by rfl, ?hyg2_0⟩) (by assumption) ?_
    case hyg2_0 => (intro w hSw; (try dsimp only at hSw); go_simp; (try with_reducible rfl))
    try simp only [Act.put, List.setIfInBounds_toArray, List.set_cons_zero, List.set_cons_succ]
    refine regTake (i := 1) (v := ?vg2_1) rfl (by kernel_rfl) (by kernel_rfl) (by kernel_rfl) (fun _ _ _ h => h) (Or.inl ⟨by rfl, ?hyg2_1⟩) (by assumption) ?_
    case hyg2_1 => (intro w hSw; (try dsimp only at hSw); go_simp; (try with_reducible rfl))
    try simp only [Act.put, List.setIfInBounds_toArray, List.set_cons_zero, List.set_cons_succ]
    refine wpAnyH_ready (rs := [2]) (by kernel_rfl) (by simp) ?_
    refine regCons rfl (fun K hK => ?_)
    go_simp
    refine (HNS.out _ (below_trans hlg1_ (below_drew (yg1_3)))).mono ?_
    rintro e yg2_0 ⟨rfl, hyg2_0⟩
    have hkg2_0 := below_trans (below_drew (yg1_3)) hyg2_0
    refine hK.out _ _ ?_ (fun hS1 => ?_)
    · (refine (fun hB => ⟨hB, cell_keep x0 hB, cell_keep x1 hB, cell_keep x2 hB, cell_keep x3 hB⟩ : Below (yg1_3).heap.size (yg1_3) _ → _) ?_; exact hkg2_0)
    clear hK K hS0
    try simp only [Act.put, List.setIfInBounds_toArray, List.set_cons_zero, List.set_cons_succ]
    refine regTake (i := 3) (v := ?vg2_3) rfl (by kernel_rfl) (by kernel_rfl) (by kernel_rfl) (fun _ _ _ h => h) (Or.inl ⟨by rfl, ?hyg2_3⟩) (by assumption) ?_
    case hyg2_3 => (intro w hSw; (try dsimp only at hSw); go_simp; (try with_reducible rfl))
    try simp only [Act.put, List.setIfInBounds_toArray, List.set_cons_zero, List.set_cons_succ]
    refine regTake (i := 4) (v := ?vg2_4) rfl (by kernel_rfl) (by kernel_rfl) (by kernel_rfl) (fun _ _ _ h => h) (Or.inl ⟨by rfl, ?hyg2_4⟩) (by assumption) ?_
    case hyg2_4 => (intro w hSw; (try dsimp only at hSw); go_simp; (try with_reducible rfl))
    try simp only [Act.put, List.setIfInBounds_toArray, List.set_cons_zero, List.set_cons_succ]
    refine regTake (i := 5) (v := ?vg2_5) rfl (by kernel_rfl) (by kernel_rfl) (by kernel_rfl) (fun _ _ _ h => h) (Or.inl ⟨by rfl, ?hyg2_5⟩) (by assumption) ?_
    case hyg2_5 => (intro w hSw; (try dsimp only at hSw); go_simp; (try with_reducible rfl))
    try simp only [Act.put, List.setIfInBounds_toArray, List.set_cons_zero, List.set_cons_succ]
    refine regTake (i := 7) (v := ?vg2_7) rfl (by kernel_rfl) (by kernel_rfl) (by kernel_rfl) (fun _ _ _ h => h) (Or.inl ⟨by rfl, ?hyg2_7⟩) (by assumption) ?_
    case hyg2_7 => (intro w hSw; (try dsimp only at hSw); go_simp; (try with_reducible rfl))
    try simp only [Act.put, List.setIfInBounds_toArray, List.set_cons_zero, List.set_cons_succ]
    refine wpAnyH_ready (rs := [6]) (by kernel_rfl) (by simp) ?_
    refine regCons rfl (fun K hK => ?_)
    go_simp
    refine (HCI.out _ (below_trans hlg1_ (hkg2_0))).mono ?_
    rintro e yg2_1 ⟨rfl, hyg2_1⟩
    have hkg2_1 := below_trans (hkg2_0) hyg2_1
    refine hK.out _ _ ?_ (fun hS2 => ?_)
    · (refine (fun hB => ⟨hB, cell_keep x0 hB, cell_keep x1 hB, cell_keep x2 hB, cell_keep x3 hB⟩ : Below (yg1_3).heap.size (yg1_3) _ → _) ?_; exact hkg2_1)
    clear hK K hS1
    try simp only [Act.put, List.setIfInBounds_toArray, List.set_cons_zero, List.set_cons_succ]
    refine wpAnyH_ready (rs := [8]) (by kernel_rfl) (by simp) ?_
    refine regCons rfl (fun K hK => ?_)
    go_simp
    refine (HCS.out _ (below_trans hlg1_ (hkg2_1))).mono ?_
    rintro e yg2_2 ⟨rfl, hyg2_2⟩
    have hkg2_2 := below_trans (hkg2_1) hyg2_2
    refine hK.out _ _ ?_ (fun hS3 => ?_)
    · (refine (fun hB => ⟨hB, cell_keep x0 hB, cell_keep x1 hB, cell_keep x2 hB, cell_keep x3 hB⟩ : Below (yg1_3).heap.size (yg1_3) _ → _) ?_; exact hkg2_2)
    clear hK K hS2
    try simp only [Act.put, List.setIfInBounds_toArray, List.set_cons_zero, List.set_cons_succ]
    refine regTake (i := 9) (v := ?vg2_9) rfl (by kernel_rfl) (by kernel_rfl) (by kernel_rfl) (fun _ _ _ h => h) (Or.inl ⟨by rfl, ?hyg2_9⟩) (by assumption) ?_
    case hyg2_9 => (intro w hSw; (try dsimp only at hSw); go_simp; (try with_reducible rfl))
    try simp only [Act.put, List.setIfInBounds_toArray, List.set_cons_zero, List.set_cons_succ]
    refine regTake (i := 10) (v := .bool true) rfl (by kernel_rfl) (by kernel_rfl) (by kernel_rfl) (fun _ _ _ h => h) (Or.inl ⟨by rfl, ?hyg2_10⟩) (by assumption) ?_
    case hyg2_10 => (intro w hSw; (try dsimp only at hSw); go_simp; (try with_reducible rfl))
    try simp only [Act.put, List.setIfInBounds_toArray, List.set_cons_zero, List.set_cons_succ]
    refine regTake (i := 11) (v := ?vg2_11) rfl (by kernel_rfl) (by kernel_rfl) (by kernel_rfl) (fun _ _ _ h => h) (Or.inl ⟨by rfl, ?hyg2_11⟩) (by assumption) ?_
    case hyg2_11 => (intro w hSw; (try dsimp only at hSw); go_simp; (try with_reducible rfl))
    try simp only [Act.put, List.setIfInBounds_toArray, List.set_cons_zero, List.set_cons_succ]
    refine wpAnyH_done (by kernel_rfl) ?_ _
    have hlg2_ := below_trans hlg1_ hkg2_2
    replace x0 := cell_keep x0 hkg2_2
    replace x1 := cell_keep x1 hkg2_2
    replace x2 := cell_keep x2 hkg2_2
    replace x3 := cell_keep x3 hkg2_2
    go_wp2_with fail
    go_ret
    exact ⟨rfl, below_trans HBL.out hlg2_⟩
  · have HT : vld t2 = true ∧ nb ≤ na ∧ na ≤ 4 ∧ 0 ≤ cb ∧ (cb = 0 → ee = true) := by first | exact HTT.out rfl | exact HTT.out trivial | exact HTT.out
    obtain ⟨hv2, hle, hmx, hnn, hey⟩ := HT
    have HDB := HDBC.out hv2
    have HCB := HCBC.out hv2
    have HEY := hid hey
    clear hey hv2
    go_wp2_with fail
    refine wp_region_held_drew (S := (fun w' => Below (w2).heap.size (w2) w' ∧ w'.cell? ⟨w1.heap.size, 0, none⟩ = some (.int .i64 k1) ∧ w'.cell? ⟨w1.heap.size, 1, none⟩ = some (.slice a1 n1 c1) ∧ w'.cell? ⟨w1.heap.size + 1, 0, none⟩ = some (.int .i64 k2) ∧ w'.cell? ⟨w1.heap.size + 1, 1, none⟩ = some (.slice a2 n2 c2))) (by kernel_rfl) ?_ (fun hS0 => ?_)
    · (refine (fun hB => ⟨hB, cell_keep x0 hB, cell_keep x1 hB, cell_keep x2 hB, cell_keep x3 hB⟩ : Below (w2).heap.size (w2) _ → _) ?_; exact below_drew _)
    refine regTake (i := 0) (v := ?vg3_0) rfl (by kernel_rfl) (by kernel_rfl) (by kernel_rfl) (fun _ _ _ h => h) (Or.inl ⟨by rfl, ?hyg3_0⟩) (by assumption) ?_
    case hyg3_0 => (intro w hSw; (try dsimp only at hSw); go_simp; (try with_reducible rfl))
    try simp only [Act.put, List.setIfInBounds_toArray, List.set_cons_zero, List.set_cons_succ]
    refine regTake (i := 1) (v := ?vg3_1) rfl (by kernel_rfl) (by kernel_rfl) (by kernel_rfl) (fun _ _ _ h => h) (Or.inl ⟨by rfl, ?hyg3_1⟩) (by assumption) ?_
    case hyg3_1 => (intro w hSw; (try dsimp only at hSw); go_simp; (try with_reducible rfl))
    try simp only [Act.put, List.setIfInBounds_toArray, List.set_cons_zero, List.set_cons_succ]
    refine wpAnyH_ready (rs := [2]) (by kernel_rfl) (by simp) ?_
    refine regCons rfl (fun K hK => ?_)
    go_simp
    refine (HNS.out _ (below_trans HB2.out (below_drew (w2)))).mono ?_
    rintro e yg3_0 ⟨rfl, hyg3_0⟩
    have hkg3_0 := below_trans (below_drew (w2)) hyg3_0
    refine hK.out _ _ ?_ (fun hS1 => ?_)
    · (refine (fun hB => ⟨hB, cell_keep x0 hB, cell_keep x1 hB, cell_keep x2 hB, cell_keep x3 hB⟩ : Below (w2).heap.size (w2) _ → _) ?_; exact hkg3_0)
    clear hK K hS0
    try simp only [Act.put, List.setIfInBounds_toArray, List.set_cons_zero, List.set_cons_succ]
    refine regTake (i := 3) (v := ?vg3_3) rfl (by kernel_rfl) (by kernel_rfl) (by kernel_rfl) (fun _ _ _ h => h) (Or.inl ⟨by rfl, ?hyg3_3⟩) (by assumption) ?_
    case hyg3_3 => (intro w hSw; (try dsimp only at hSw); go_simp; (try with_reducible rfl))
    try simp only [Act.put, List.setIfInBounds_toArray, List.set_cons_zero, List.set_cons_succ]
    refine regTake (i := 4) (v := ?vg3_4) rfl (by kernel_rfl) (by kernel_rfl) (by kernel_rfl) (fun _ _ _ h => h) (Or.inl ⟨by rfl, ?hyg3_4⟩) (by assumption) ?_
    case hyg3_4 => (intro w hSw; (try dsimp only at hSw); go_simp; (try with_reducible rfl))
    try simp only [Act.put, List.setIfInBounds_toArray, List.set_cons_zero, List.set_cons_succ]
    refine regTake (i := 5) (v := ?vg3_5) rfl (by kernel_rfl) (by kernel_rfl) (by kernel_rfl) (fun _ _ _ h => h) (Or.inl ⟨by rfl, ?hyg3_5⟩) (by assumption) ?_
    case hyg3_5 => (intro w hSw; (try dsimp only at hSw); go_simp; (try with_reducible rfl))
    try simp only [Act.put, List.setIfInBounds_toArray, List.set_cons_zero, List.set_cons_succ]
    refine regTake (i := 7) (v := ?vg3_7) rfl (by kernel_rfl) (by kernel_rfl) (by kernel_rfl) (fun _ _ _ h => h) (Or.inl ⟨by rfl, ?hyg3_7⟩) (by assumption) ?_
    case hyg3_7 => (intro w hSw; (try dsimp only at hSw); go_simp; (try with_reducible rfl))
    try simp only [Act.put, List.setIfInBounds_toArray, List.set_cons_zero, List.set_cons_succ]
    refine wpAnyH_ready (rs := [6]) (by kernel_rfl) (by simp) ?_
    refine regCons rfl (fun K hK => ?_)
    go_simp
    refine (HCI.out _ (below_trans HB2.out (hkg3_0))).mono ?_
    rintro e yg3_1 ⟨rfl, hyg3_1⟩
    have hkg3_1 := below_trans (hkg3_0) hyg3_1
    refine hK.out _ _ ?_ (fun hS2 => ?_)
    · (refine (fun hB => ⟨hB, cell_keep x0 hB, cell_keep x1 hB, cell_keep x2 hB, cell_keep x3 hB⟩ : Below (w2).heap.size (w2) _ → _) ?_; exact hkg3_1)
    clear hK K hS1
    try simp only [Act.put, List.setIfInBounds_toArray, List.set_cons_zero, List.set_cons_succ]
    refine wpAnyH_ready (rs := [8]) (by kernel_rfl) (by simp) ?_
    refine regCons rfl (fun K hK => ?_)
    go_simp
    refine (HCS.out _ (below_trans HB2.out (hkg3_1))).mono ?_
    rintro e yg3_2 ⟨rfl, hyg3_2⟩
    have hkg3_2 := below_trans (hkg3_1) hyg3_2
    refine hK.out _ _ ?_ (fun hS3 => ?_)
    · (refine (fun hB => ⟨hB, cell_keep x0 hB, cell_keep x1 hB, cell_keep x2 hB, cell_keep x3 hB⟩ : Below (w2).heap.size (w2) _ → _) ?_; exact hkg3_2)
    clear hK K hS2
    try simp only [Act.put, List.setIfInBounds_toArray, List.set_cons_zero, List.set_cons_succ]
    refine regTake (i := 9) (v := ?vg3_9) rfl (by kernel_rfl) (by kernel_rfl) (by kernel_rfl) (fun _ _ _ h => h) (Or.inl ⟨by rfl, ?hyg3_9⟩) (by assumption) ?_
    case hyg3_9 => (intro w hSw; (try dsimp only at hSw); go_simp; (try with_reducible rfl))
    try simp only [Act.put, List.setIfInBounds_toArray, List.set_cons_zero, List.set_cons_succ]
    refine regTake (i := 10) (v := .bool false) rfl (by kernel_rfl) (by kernel_rfl) (by kernel_rfl) (fun _ _ _ h => h) (Or.inl ⟨by rfl, ?hyg3_10⟩) (by assumption) ?_
    case hyg3_10 => (intro w hSw; (try dsimp only at hSw); go_simp; (try with_reducible rfl))
    try simp only [Act.put, List.setIfInBounds_toArray, List.set_cons_zero, List.set_cons_succ]
    refine regTake (i := 11) (v := ?vg3_11) rfl (by kernel_rfl) (by kernel_rfl) (by kernel_rfl) (fun _ _ _ h => h) (Or.inl ⟨by rfl, ?hyg3_11⟩) (by assumption) ?_
    case hyg3_11 => (intro w hSw; (try dsimp only at hSw); go_simp; (try with_reducible rfl))
    try simp only [Act.put, List.setIfInBounds_toArray, List.set_cons_zero, List.set_cons_succ]
    refine regTake (i := 12) (v := ?vg3_12) rfl (by kernel_rfl) (by kernel_rfl) (by kernel_rfl) (fun _ _ _ h => h) (Or.inl ⟨by rfl, ?hyg3_12⟩) (by assumption) ?_
    case hyg3_12 => (intro w hSw; (try dsimp only at hSw); go_simp; (try with_reducible rfl))
    try simp only [Act.put, List.setIfInBounds_toArray, List.set_cons_zero, List.set_cons_succ]
    refine regTake (i := 13) (v := ?vg3_13) rfl (by kernel_rfl) (by kernel_rfl) (by kernel_rfl) (fun _ _ _ h => h) (Or.inl ⟨by rfl, ?hyg3_13⟩) (by assumption) ?_
    case hyg3_13 => (intro w hSw; (try dsimp only at hSw); go_simp; (try with_reducible rfl))
    try simp only [Act.put, List.setIfInBounds_toArray, List.set_cons_zero, List.set_cons_succ]
    refine wpAnyH_ready (rs := [14]) (by kernel_rfl) (by simp) ?_
    refine regCons rfl (fun K hK => ?_)
    go_simp
    refine (HP.out _ (below_trans HB2.out (hkg3_2))).mono ?_
    rintro e yg3_3 ⟨rfl, hyg3_3⟩
    have hkg3_3 := below_trans (hkg3_2) hyg3_3
    refine hK.out _ _ ?_ (fun hS4 => ?_)
    · (refine (fun hB => ⟨hB, cell_keep x0 hB, cell_keep x1 hB, cell_keep x2 hB, cell_keep x3 hB⟩ : Below (w2).heap.size (w2) _ → _) ?_; exact hkg3_3)
    clear hK K hS3
    try simp only [Act.put, List.setIfInBounds_toArray, List.set_cons_zero, List.set_cons_succ]
    refine regTake (i := 15) (v := ?vg3_15) rfl (by kernel_rfl) (by kernel_rfl) (by kernel_rfl) (fun _ _ _ h => h) (Or.inl ⟨by rfl, ?hyg3_15⟩) (by assumption) ?_
    case hyg3_15 => (intro w hSw; (try dsimp only at hSw); go_simp; (try with_reducible rfl))
    try simp only [Act.put, List.setIfInBounds_toArray, List.set_cons_zero, List.set_cons_succ]
    refine regTake (i := 16) (v := .bool false) rfl (by kernel_rfl) (by kernel_rfl) (by kernel_rfl) (fun _ _ _ h => h) (Or.inl ⟨by rfl, ?hyg3_16⟩) (by assumption) ?_
    case hyg3_16 => (intro w hSw; (try dsimp only at hSw); go_simp; (try with_reducible rfl))
    try simp only [Act.put, List.setIfInBounds_toArray, List.set_cons_zero, List.set_cons_succ]
    refine wpAnyH_done (by kernel_rfl) ?_ _
    have hlg3_ := below_trans HB2.out hkg3_3
    replace x0 := cell_keep x0 hkg3_3
    replace x1 := cell_keep x1 hkg3_3
    replace x2 := cell_keep x2 hkg3_3
    replace x3 := cell_keep x3 hkg3_3
    by_cases h0 : cb = 0
    · have e6 := HEY.out h0
      subst e6
      subst h0
      go_wp2_with fail
      refine (HDB.out _ hlg3_).mono ?_
      rintro e z6 ⟨rfl, hz6⟩
      have hq6 := below_trans hlg3_ hz6
      replace x0 := cell_keep x0 hz6
      replace x1 := cell_keep x1 hz6
      replace x2 := cell_keep x2 hz6
      replace x3 := cell_keep x3 hz6
      go_wp2_with fail
      refine (HCB.out _ hq6).mono ?_
      rintro e z7 ⟨rfl, hz7⟩
      have hq7 := below_trans hq6 hz7
      replace x0 := cell_keep x0 hz7
      replace x1 := cell_keep x1 hz7
      replace x2 := cell_keep x2 hz7
      replace x3 := cell_keep x3 hz7
      go_wp2_with fail
      refine (HSM.out _ hq7).mono ?_
      rintro e z8 ⟨rfl, hz8⟩
      have hq8 := below_trans hq7 hz8
      replace x0 := cell_keep x0 hz8
      replace x1 := cell_keep x1 hz8
      replace x2 := cell_keep x2 hz8
      replace x3 := cell_keep x3 hz8
      go_wp2_with fail
      go_ret
      exact ⟨rfl, below_trans HBL.out hq8⟩
    · have hpos : cb > 0 := by omega
      have hpos2 : 0 < cb := hpos
      go_wp2_with fail
      refine (HDB.out _ hlg3_).mono ?_
      rintro e z9 ⟨rfl, hz9⟩
      have hq9 := below_trans hlg3_ hz9
      replace x0 := cell_keep x0 hz9
      replace x1 := cell_keep x1 hz9
      replace x2 := cell_keep x2 hz9
      replace x3 := cell_keep x3 hz9
      go_wp2_with fail
      refine (HCB.out _ hq9).mono ?_
      rintro e z10 ⟨rfl, hz10⟩
      have hq10 := below_trans hq9 hz10
      replace x0 := cell_keep x0 hz10
      replace x1 := cell_keep x1 hz10
      replace x2 := cell_keep x2 hz10
      replace x3 := cell_keep x3 hz10
      go_wp2_with fail
      go_ret
      exact ⟨rfl, below_trans HBL.out hq10⟩
end Go.Proofs.Ytphejelpgfdgoaa
