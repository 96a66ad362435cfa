/- The law on Precise: it returns true and writes nothing that was there. -/
import Derived.Test.YtjcbdfnjlboadaaDr8
import Derived.Test.YtjcbdfnjlboadaaDrP
import Derived.Test.YtjcbdfnjlboadaaBlB
import Derived.Test.YtjcbdfnjlboadaaRel
import Derived.Test.YtjcbdfnjlboadaaReg
import Derived.Test.YtjcbdfnjlboadaaRaw
import Derived.Deep.RegionHeld3
namespace Go.Proofs.Ytjcbdfnjlboadaa
open Go.RowKit

theorem any_only {d : Nat} {a : Ty} (ha : shp (d + 1) a = true) (h : kindT a = 1) : a = .mk 1 [] := by
  obtain ⟨k, ts, rfl⟩ := a.shape
  have hk : k = 1 := h
  subst hk
  simp only [shp, Bool.and_eq_true, beq_iff_eq] at ha
  have h0 : kidsOf 1 = 0 := by decide
  have : ts.length = 0 := by omega
  rw [List.length_eq_zero_iff.1 this]

theorem prec_same8 : ∀ (d : Nat) (a b : Ty), shp d a = true → shp d b = true → a = b → prec a b = true
  | 0, a, _, ha, _, _ => by simp [shp] at ha
  | d + 1, a, b, ha, hb, h => by
    rcases rel_cases ha hb with h1 | h1 | ⟨h1, h2, h3⟩ | ⟨h1, h2, hs⟩
    · exact prec_any (by rw [← h]; exact h1)
    · exact prec_any h1
    · exact absurd (by rw [h]) h3
    · cases hs with
      | leaf k hk => exact prec_leaf
      | two k x y x' y' hk hx hy hx' hy' =>
        simp only [Ty.mk.injEq, List.cons.injEq, true_and, and_true] at h
        rw [prec_two hk, Bool.and_eq_true]
        exact ⟨prec_same8 d _ _ hx hx' h.1, prec_same8 d _ _ hy hy' h.2⟩

theorem prec_anti8 : ∀ (d : Nat) (a b : Ty), shp d a = true → shp d b = true → prec a b = true → prec b a = true → a = b
  | 0, a, _, ha, _, _, _ => by simp [shp] at ha
  | d + 1, a, b, ha, hb, h, g => by
    rcases rel_cases ha hb with h1 | h1 | ⟨h1, h2, h3⟩ | ⟨h1, h2, hs⟩
    · have : kindT b = 1 := by rcases prec_kind h with e | e <;> omega
      rw [any_only ha h1, any_only hb this]
    · have : kindT a = 1 := by rcases prec_kind g with e | e <;> omega
      rw [any_only ha this, any_only hb h1]
    · rw [prec_diff h2 h3] at h
      cases h
    · cases hs with
      | leaf k hk => rfl
      | two k x y x' y' hk hx hy hx' hy' =>
        rw [prec_two hk, Bool.and_eq_true] at h g
        rw [prec_anti8 d _ _ hx hx' h.1 g.1, prec_anti8 d _ _ hy hy' h.2 g.2]

theorem prec_self (a : Ty) : precOf a a = vld a := by
  unfold precOf
  cases hv : vld a with
  | false => simp
  | true => simp only [Bool.true_and]; exact prec_same8 4 a a hv hv rfl

theorem prec_tr (a b c : Ty) (hp : precOf a b = true) (hq : precOf b c = true) : precOf a c = true := by
  simp only [precOf, Bool.and_eq_true] at *
  exact ⟨⟨hp.1.1, hq.1.2⟩, prec_trans 4 a b c hp.1.1 hp.1.2 hq.1.2 hp.2 hq.2⟩

theorem prec_eq (a b : Ty) (hp : precOf a b = true) (hq : precOf b a = true) : tyEq a b = true := by
  simp only [precOf, Bool.and_eq_true] at *
  rw [prec_anti8 4 a b hp.1.1 hp.1.2 hp.2 hq.2]
  exact tyEq_refl b

theorem three8 {w wr : World} {o1 o2 o3 : Obj} (h : Below (((w.alloc o1).alloc o2).alloc o3).heap.size (((w.alloc o1).alloc o2).alloc o3) wr) : wr.heap[w.heap.size]? = some o1 ∧ wr.heap[w.heap.size + 1]? = some o2 ∧ wr.heap[w.heap.size + 1 + 1]? = some o3 := by
  obtain ⟨h1, h2⟩ := two9 (below_trans ((Below.refl ((w.alloc o1).alloc o2).heap.size ((w.alloc o1).alloc o2)).alloc (Nat.le_refl _) o3) h)
  have hs : ((w.alloc o1).alloc o2).heap.size = w.heap.size + 1 + 1 := by simp
  refine ⟨h1, h2, (h.block _ (by simp)).trans ?_⟩
  rw [← hs]
  exact alloc_new _ _

set_option linter.unusedSimpArgs false in
set_option linter.unusedVariables false in
set_option maxRecDepth 100000 in
set_option maxHeartbeats 8000000 in
theorem lawDPrec (a0 : Option Addr) (n0 cap0 : Nat) (w : World) (hB : BytA w a0 n0) (hn : n0 ≤ cap0) (hm : cap0 ≤ maxLen) :
    Calls Try.prog 3 #[.slice a0 n0 cap0] w fun e w' => e = .returned (.bool true) ∧ Below w.heap.size w w' := by
  by_cases hl : (n0 : Int) > 1048576
  · clear hB
    go_enter Try.func3, Try.ntmps3
    go_wp2_with fail
    go_ret
    exact ⟨rfl, Below.refl _ _⟩
  have HD := hid (drawChain_any a0 n0 cap0 w hB hn hm)
  clear hB
  go_enter Try.func3, Try.ntmps3
  go_wp2_with fail
  refine HD.out.mono ?_
  rintro e w1 ⟨t1, t2, t3, v1, v2, v3, f1, f2, f3, rfl, h1, h2, h3, ⟨hcn, hz1, hz2⟩, hb⟩
  obtain ⟨k1, n1, a1, c1, rfl⟩ := h1.agg
  obtain ⟨k2, n2, a2, c2, rfl⟩ := h2.agg
  obtain ⟨k3, n3, a3, c3, rfl⟩ := h3.agg
  have hal : Below w1.heap.size w1 (((w1.alloc (Obj.cells #[.int .i64 k1, .slice a1 n1 c1] 25)).alloc (Obj.cells #[.int .i64 k2, .slice a2 n2 c2] 25)).alloc (Obj.cells #[.int .i64 k3, .slice a3 n3 c3] 25)) := (((Below.refl _ _).alloc (Nat.le_refl _) _).alloc (by simp) _).alloc (by simp; omega) _
  have HCN := hid hcn
  have HR1 := hid (show ∀ x ∈ f1, Raw (((w1.alloc (Obj.cells #[.int .i64 k1, .slice a1 n1 c1] 25)).alloc (Obj.cells #[.int .i64 k2, .slice a2 n2 c2] 25)).alloc (Obj.cells #[.int .i64 k3, .slice a3 n3 c3] 25)) x from fun x hx => Raw.below ⟨h1.laid x hx, hz1 x hx⟩ hal)
  have HR2 := hid (show ∀ x ∈ f2, Raw (((w1.alloc (Obj.cells #[.int .i64 k1, .slice a1 n1 c1] 25)).alloc (Obj.cells #[.int .i64 k2, .slice a2 n2 c2] 25)).alloc (Obj.cells #[.int .i64 k3, .slice a3 n3 c3] 25)) x from fun x hx => Raw.below ⟨h2.laid x hx, hz2 x hx⟩ hal)
  have HBL := hid (below_trans hb hal)
  have H1 := hid (h1.below hal)
  have H2 := hid (h2.below hal)
  have H3 := hid (h3.below hal)
  obtain ⟨e1, e2, e3⟩ := three8 (Below.refl ((((w1.alloc (Obj.cells #[.int .i64 k1, .slice a1 n1 c1] 25)).alloc (Obj.cells #[.int .i64 k2, .slice a2 n2 c2] 25)).alloc (Obj.cells #[.int .i64 k3, .slice a3 n3 c3] 25))).heap.size (((w1.alloc (Obj.cells #[.int .i64 k1, .slice a1 n1 c1] 25)).alloc (Obj.cells #[.int .i64 k2, .slice a2 n2 c2] 25)).alloc (Obj.cells #[.int .i64 k3, .slice a3 n3 c3] 25)))
  have x0 : ((((w1.alloc (Obj.cells #[.int .i64 k1, .slice a1 n1 c1] 25)).alloc (Obj.cells #[.int .i64 k2, .slice a2 n2 c2] 25)).alloc (Obj.cells #[.int .i64 k3, .slice a3 n3 c3] 25))).cell? ⟨w1.heap.size, 0, none⟩ = some (.int .i64 k1) := by rw [cell_of_block e1]; rfl
  have x1 : ((((w1.alloc (Obj.cells #[.int .i64 k1, .slice a1 n1 c1] 25)).alloc (Obj.cells #[.int .i64 k2, .slice a2 n2 c2] 25)).alloc (Obj.cells #[.int .i64 k3, .slice a3 n3 c3] 25))).cell? ⟨w1.heap.size, 1, none⟩ = some (.slice a1 n1 c1) := by rw [cell_of_block e1]; rfl
  have x2 : ((((w1.alloc (Obj.cells #[.int .i64 k1, .slice a1 n1 c1] 25)).alloc (Obj.cells #[.int .i64 k2, .slice a2 n2 c2] 25)).alloc (Obj.cells #[.int .i64 k3, .slice a3 n3 c3] 25))).cell? ⟨w1.heap.size + 1, 0, none⟩ = some (.int .i64 k2) := by rw [cell_of_block e2]; rfl
  have x3 : ((((w1.alloc (Obj.cells #[.int .i64 k1, .slice a1 n1 c1] 25)).alloc (Obj.cells #[.int .i64 k2, .slice a2 n2 c2] 25)).alloc (Obj.cells #[.int .i64 k3, .slice a3 n3 c3] 25))).cell? ⟨w1.heap.size + 1, 1, none⟩ = some (.slice a2 n2 c2) := by rw [cell_of_block e2]; rfl
  have x4 : ((((w1.alloc (Obj.cells #[.int .i64 k1, .slice a1 n1 c1] 25)).alloc (Obj.cells #[.int .i64 k2, .slice a2 n2 c2] 25)).alloc (Obj.cells #[.int .i64 k3, .slice a3 n3 c3] 25))).cell? ⟨w1.heap.size + 1 + 1, 0, none⟩ = some (.int .i64 k3) := by rw [cell_of_block e3]; rfl
  have x5 : ((((w1.alloc (Obj.cells #[.int .i64 k1, .slice a1 n1 c1] 25)).alloc (Obj.cells #[.int .i64 k2, .slice a2 n2 c2] 25)).alloc (Obj.cells #[.int .i64 k3, .slice a3 n3 c3] 25))).cell? ⟨w1.heap.size + 1 + 1, 1, none⟩ = some (.slice a3 n3 c3) := by rw [cell_of_block e3]; rfl
  have h0 := Below.refl ((((w1.alloc (Obj.cells #[.int .i64 k1, .slice a1 n1 c1] 25)).alloc (Obj.cells #[.int .i64 k2, .slice a2 n2 c2] 25)).alloc (Obj.cells #[.int .i64 k3, .slice a3 n3 c3] 25))).heap.size (((w1.alloc (Obj.cells #[.int .i64 k1, .slice a1 n1 c1] 25)).alloc (Obj.cells #[.int .i64 k2, .slice a2 n2 c2] 25)).alloc (Obj.cells #[.int .i64 k3, .slice a3 n3 c3] 25))
  have HP := hid (fun (W : World) (h : Below ((((w1.alloc (Obj.cells #[.int .i64 k1, .slice a1 n1 c1] 25)).alloc (Obj.cells #[.int .i64 k2, .slice a2 n2 c2] 25)).alloc (Obj.cells #[.int .i64 k3, .slice a3 n3 c3] 25))).heap.size (((w1.alloc (Obj.cells #[.int .i64 k1, .slice a1 n1 c1] 25)).alloc (Obj.cells #[.int .i64 k2, .slice a2 n2 c2] 25)).alloc (Obj.cells #[.int .i64 k3, .slice a3 n3 c3] 25)) W) => implPrecise t1 t2 _ _ _ _ W (H1.out.below h) (H2.out.below h))
  have HQ := hid (fun (W : World) (h : Below ((((w1.alloc (Obj.cells #[.int .i64 k1, .slice a1 n1 c1] 25)).alloc (Obj.cells #[.int .i64 k2, .slice a2 n2 c2] 25)).alloc (Obj.cells #[.int .i64 k3, .slice a3 n3 c3] 25))).heap.size (((w1.alloc (Obj.cells #[.int .i64 k1, .slice a1 n1 c1] 25)).alloc (Obj.cells #[.int .i64 k2, .slice a2 n2 c2] 25)).alloc (Obj.cells #[.int .i64 k3, .slice a3 n3 c3] 25)) W) => implPrecise t2 t3 _ _ _ _ W (H2.out.below h) (H3.out.below h))
  have HSP := hid (fun (W : World) (h : Below ((((w1.alloc (Obj.cells #[.int .i64 k1, .slice a1 n1 c1] 25)).alloc (Obj.cells #[.int .i64 k2, .slice a2 n2 c2] 25)).alloc (Obj.cells #[.int .i64 k3, .slice a3 n3 c3] 25))).heap.size (((w1.alloc (Obj.cells #[.int .i64 k1, .slice a1 n1 c1] 25)).alloc (Obj.cells #[.int .i64 k2, .slice a2 n2 c2] 25)).alloc (Obj.cells #[.int .i64 k3, .slice a3 n3 c3] 25)) W) => specPrecise t1 t2 _ _ _ _ W (H1.out.below h) (H2.out.below h))
  have HSQ := hid (fun (W : World) (h : Below ((((w1.alloc (Obj.cells #[.int .i64 k1, .slice a1 n1 c1] 25)).alloc (Obj.cells #[.int .i64 k2, .slice a2 n2 c2] 25)).alloc (Obj.cells #[.int .i64 k3, .slice a3 n3 c3] 25))).heap.size (((w1.alloc (Obj.cells #[.int .i64 k1, .slice a1 n1 c1] 25)).alloc (Obj.cells #[.int .i64 k2, .slice a2 n2 c2] 25)).alloc (Obj.cells #[.int .i64 k3, .slice a3 n3 c3] 25)) W) => specPrecise t2 t3 _ _ _ _ W (H2.out.below h) (H3.out.below h))
  have HAA := hid (fun (W : World) (h : Below ((((w1.alloc (Obj.cells #[.int .i64 k1, .slice a1 n1 c1] 25)).alloc (Obj.cells #[.int .i64 k2, .slice a2 n2 c2] 25)).alloc (Obj.cells #[.int .i64 k3, .slice a3 n3 c3] 25))).heap.size (((w1.alloc (Obj.cells #[.int .i64 k1, .slice a1 n1 c1] 25)).alloc (Obj.cells #[.int .i64 k2, .slice a2 n2 c2] 25)).alloc (Obj.cells #[.int .i64 k3, .slice a3 n3 c3] 25)) W) => implPrecise t1 t1 _ _ _ _ W (H1.out.below h) (H1.out.below h))
  have HAC := hid (fun (W : World) (h : Below ((((w1.alloc (Obj.cells #[.int .i64 k1, .slice a1 n1 c1] 25)).alloc (Obj.cells #[.int .i64 k2, .slice a2 n2 c2] 25)).alloc (Obj.cells #[.int .i64 k3, .slice a3 n3 c3] 25))).heap.size (((w1.alloc (Obj.cells #[.int .i64 k1, .slice a1 n1 c1] 25)).alloc (Obj.cells #[.int .i64 k2, .slice a2 n2 c2] 25)).alloc (Obj.cells #[.int .i64 k3, .slice a3 n3 c3] 25)) W) => implPrecise t1 t3 _ _ _ _ W (H1.out.below h) (H3.out.below h))
  have HBA := hid (fun (W : World) (h : Below ((((w1.alloc (Obj.cells #[.int .i64 k1, .slice a1 n1 c1] 25)).alloc (Obj.cells #[.int .i64 k2, .slice a2 n2 c2] 25)).alloc (Obj.cells #[.int .i64 k3, .slice a3 n3 c3] 25))).heap.size (((w1.alloc (Obj.cells #[.int .i64 k1, .slice a1 n1 c1] 25)).alloc (Obj.cells #[.int .i64 k2, .slice a2 n2 c2] 25)).alloc (Obj.cells #[.int .i64 k3, .slice a3 n3 c3] 25)) W) => implPrecise t2 t1 _ _ _ _ W (H2.out.below h) (H1.out.below h))
  rw [prec_self t1] at HAA
  have HV := hid (fun (W : World) (h : Below ((((w1.alloc (Obj.cells #[.int .i64 k1, .slice a1 n1 c1] 25)).alloc (Obj.cells #[.int .i64 k2, .slice a2 n2 c2] 25)).alloc (Obj.cells #[.int .i64 k3, .slice a3 n3 c3] 25))).heap.size (((w1.alloc (Obj.cells #[.int .i64 k1, .slice a1 n1 c1] 25)).alloc (Obj.cells #[.int .i64 k2, .slice a2 n2 c2] 25)).alloc (Obj.cells #[.int .i64 k3, .slice a3 n3 c3] 25)) W) => implTypeValid_any t1 _ _ W (H1.out.below h))
  have HSM := hid (fun (W : World) (h : Below ((((w1.alloc (Obj.cells #[.int .i64 k1, .slice a1 n1 c1] 25)).alloc (Obj.cells #[.int .i64 k2, .slice a2 n2 c2] 25)).alloc (Obj.cells #[.int .i64 k3, .slice a3 n3 c3] 25))).heap.size (((w1.alloc (Obj.cells #[.int .i64 k1, .slice a1 n1 c1] 25)).alloc (Obj.cells #[.int .i64 k2, .slice a2 n2 c2] 25)).alloc (Obj.cells #[.int .i64 k3, .slice a3 n3 c3] 25)) W) => implTypeSame t1 t2 _ _ _ _ W (by have := HCN.out; omega) (H1.out.below h) (H2.out.below h) (fun x hx => (HR1.out x hx).below h) (fun x hx => (HR2.out x hx).below h))
  have HTR := hid (prec_tr t1 t2 t3)
  have HTS := hid (prec_eq t1 t2)
  generalize precOf t1 t2 = p at *
  generalize precOf t2 t3 = q at *
  generalize precOf t2 t1 = s at *
  generalize precOf t1 t3 = r at *
  generalize tyEq t1 t2 = ee at *
  generalize vld t1 = vv at *
  clear h1 h2 h3 hb hal H1 H2 H3 e1 e2 e3 hcn hz1 hz2 HR1 HR2
  go_wp2_with fail
  refine (HP.out _ h0).mono ?_
  rintro e w2 ⟨rfl, hb2⟩
  replace x0 := cell_keep x0 hb2
  replace x1 := cell_keep x1 hb2
  replace x2 := cell_keep x2 hb2
  replace x3 := cell_keep x3 hb2
  replace x4 := cell_keep x4 hb2
  replace x5 := cell_keep x5 hb2
  go_wp2_with fail
  refine (HQ.out _ hb2).mono ?_
  rintro e w3 ⟨rfl, hb3⟩
  have HB3 := hid (below_trans hb2 hb3)
  replace x0 := cell_keep x0 hb3
  replace x1 := cell_keep x1 hb3
  replace x2 := cell_keep x2 hb3
  replace x3 := cell_keep x3 hb3
  replace x4 := cell_keep x4 hb3
  replace x5 := cell_keep x5 hb3
  clear h0 hb2 hb3 HP HQ HD
  cases p
  · cases q
    · cases vv
      · go_wp2_with fail
        refine wp_region_held_drew (S := (fun w' => Below (w3).heap.size (w3) w' ∧ w'.cell? ⟨w1.heap.size, 0, none⟩ = some (.int .i64 k1) ∧ w'.cell? ⟨w1.heap.size, 1, none⟩ = some (.slice a1 n1 c1) ∧ w'.cell? ⟨w1.heap.size + 1, 0, none⟩ = some (.int .i64 k2) ∧ w'.cell? ⟨w1.heap.size + 1, 1, none⟩ = some (.slice a2 n2 c2) ∧ w'.cell? ⟨w1.heap.size + 1 + 1, 0, none⟩ = some (.int .i64 k3) ∧ w'.cell? ⟨w1.heap.size + 1 + 1, 1, none⟩ = some (.slice a3 n3 c3))) (by kernel_rfl) ?_ (fun hS0 => ?_)
        · (refine (fun hB => ⟨hB, cell_keep x0 hB, cell_keep x1 hB, cell_keep x2 hB, cell_keep x3 hB, cell_keep x4 hB, cell_keep x5 hB⟩ : Below (w3).heap.size (w3) _ → _) ?_; exact below_drew _)
        refine regTake (i := 0) (v := ?vg1_0) rfl (by kernel_rfl) (by kernel_rfl) (by kernel_rfl) (fun _ _ _ h => h) (Or.inl ⟨by rfl, ?hyg1_0⟩) (by assumption) ?_
        case hyg1_0 => (intro w hSw; (try dsimp only at hSw); go_simp; (try with_reducible rfl))
        try simp only [Act.put, List.setIfInBounds_toArray, List.set_cons_zero, List.set_cons_succ]
        refine regTake (i := 1) (v := ?vg1_1) rfl (by kernel_rfl) (by kernel_rfl) (by kernel_rfl) (fun _ _ _ h => h) (Or.inl ⟨by rfl, ?hyg1_1⟩) (by assumption) ?_
        case hyg1_1 => (intro w hSw; (try dsimp only at hSw); go_simp; (try with_reducible rfl))
        try simp only [Act.put, List.setIfInBounds_toArray, List.set_cons_zero, List.set_cons_succ]
        refine regTake (i := 2) (v := ?vg1_2) rfl (by kernel_rfl) (by kernel_rfl) (by kernel_rfl) (fun _ _ _ h => h) (Or.inl ⟨by rfl, ?hyg1_2⟩) (by assumption) ?_
        case hyg1_2 => (intro w hSw; (try dsimp only at hSw); go_simp; (try with_reducible rfl))
        try simp only [Act.put, List.setIfInBounds_toArray, List.set_cons_zero, List.set_cons_succ]
        refine wpAnyH_ready (rs := [3]) (by kernel_rfl) (by simp) ?_
        refine regCons rfl (fun K hK => ?_)
        go_simp
        refine (HSP.out _ (below_trans HB3.out (below_drew (w3)))).mono ?_
        rintro e yg1_0 ⟨rfl, hyg1_0⟩
        have hkg1_0 := below_trans (below_drew (w3)) hyg1_0
        refine hK.out _ _ ?_ (fun hS1 => ?_)
        · (refine (fun hB => ⟨hB, cell_keep x0 hB, cell_keep x1 hB, cell_keep x2 hB, cell_keep x3 hB, cell_keep x4 hB, cell_keep x5 hB⟩ : Below (w3).heap.size (w3) _ → _) ?_; exact hkg1_0)
        clear hK K hS0
        try simp only [Act.put, List.setIfInBounds_toArray, List.set_cons_zero, List.set_cons_succ]
        refine regTake (i := 4) (v := ?vg1_4) rfl (by kernel_rfl) (by kernel_rfl) (by kernel_rfl) (fun _ _ _ h => h) (Or.inl ⟨by rfl, ?hyg1_4⟩) (by assumption) ?_
        case hyg1_4 => (intro w hSw; (try dsimp only at hSw); go_simp; (try with_reducible rfl))
        try simp only [Act.put, List.setIfInBounds_toArray, List.set_cons_zero, List.set_cons_succ]
        refine regTake (i := 5) (v := ?vg1_5) rfl (by kernel_rfl) (by kernel_rfl) (by kernel_rfl) (fun _ _ _ h => h) (Or.inl ⟨by rfl, ?hyg1_5⟩) (by assumption) ?_
        case hyg1_5 => (intro w hSw; (try dsimp only at hSw); go_simp; (try with_reducible rfl))
        try simp only [Act.put, List.setIfInBounds_toArray, List.set_cons_zero, List.set_cons_succ]
        refine regTake (i := 6) (v := ?vg1_6) rfl (by kernel_rfl) (by kernel_rfl) (by kernel_rfl) (fun _ _ _ h => h) (Or.inl ⟨by rfl, ?hyg1_6⟩) (by assumption) ?_
        case hyg1_6 => (intro w hSw; (try dsimp only at hSw); go_simp; (try with_reducible rfl))
        try simp only [Act.put, List.setIfInBounds_toArray, List.set_cons_zero, List.set_cons_succ]
        refine regTake (i := 7) (v := ?vg1_7) rfl (by kernel_rfl) (by kernel_rfl) (by kernel_rfl) (fun _ _ _ h => h) (Or.inl ⟨by rfl, ?hyg1_7⟩) (by assumption) ?_
        case hyg1_7 => (intro w hSw; (try dsimp only at hSw); go_simp; (try with_reducible rfl))
        try simp only [Act.put, List.setIfInBounds_toArray, List.set_cons_zero, List.set_cons_succ]
        refine regTake (i := 8) (v := ?vg1_8) rfl (by kernel_rfl) (by kernel_rfl) (by kernel_rfl) (fun _ _ _ h => h) (Or.inl ⟨by rfl, ?hyg1_8⟩) (by assumption) ?_
        case hyg1_8 => (intro w hSw; (try dsimp only at hSw); go_simp; (try with_reducible rfl))
        try simp only [Act.put, List.setIfInBounds_toArray, List.set_cons_zero, List.set_cons_succ]
        refine wpAnyH_ready (rs := [9]) (by kernel_rfl) (by simp) ?_
        refine regCons rfl (fun K hK => ?_)
        go_simp
        refine (HSQ.out _ (below_trans HB3.out (hkg1_0))).mono ?_
        rintro e yg1_1 ⟨rfl, hyg1_1⟩
        have hkg1_1 := below_trans (hkg1_0) hyg1_1
        refine hK.out _ _ ?_ (fun hS2 => ?_)
        · (refine (fun hB => ⟨hB, cell_keep x0 hB, cell_keep x1 hB, cell_keep x2 hB, cell_keep x3 hB, cell_keep x4 hB, cell_keep x5 hB⟩ : Below (w3).heap.size (w3) _ → _) ?_; exact hkg1_1)
        clear hK K hS1
        try simp only [Act.put, List.setIfInBounds_toArray, List.set_cons_zero, List.set_cons_succ]
        refine regTake (i := 10) (v := ?vg1_10) rfl (by kernel_rfl) (by kernel_rfl) (by kernel_rfl) (fun _ _ _ h => h) (Or.inl ⟨by rfl, ?hyg1_10⟩) (by assumption) ?_
        case hyg1_10 => (intro w hSw; (try dsimp only at hSw); go_simp; (try with_reducible rfl))
        try simp only [Act.put, List.setIfInBounds_toArray, List.set_cons_zero, List.set_cons_succ]
        refine regTake (i := 11) (v := .bool false) rfl (by kernel_rfl) (by kernel_rfl) (by kernel_rfl) (fun _ _ _ h => h) (Or.inl ⟨by rfl, ?hyg1_11⟩) (by assumption) ?_
        case hyg1_11 => (intro w hSw; (try dsimp only at hSw); go_simp; (try with_reducible rfl))
        try simp only [Act.put, List.setIfInBounds_toArray, List.set_cons_zero, List.set_cons_succ]
        refine regTake (i := 12) (v := ?vg1_12) rfl (by kernel_rfl) (by kernel_rfl) (by kernel_rfl) (fun _ _ _ h => h) (Or.inl ⟨by rfl, ?hyg1_12⟩) (by assumption) ?_
        case hyg1_12 => (intro w hSw; (try dsimp only at hSw); go_simp; (try with_reducible rfl))
        try simp only [Act.put, List.setIfInBounds_toArray, List.set_cons_zero, List.set_cons_succ]
        refine regTake (i := 13) (v := ?vg1_13) rfl (by kernel_rfl) (by kernel_rfl) (by kernel_rfl) (fun _ _ _ h => h) (Or.inl ⟨by rfl, ?hyg1_13⟩) (by assumption) ?_
        case hyg1_13 => (intro w hSw; (try dsimp only at hSw); go_simp; (try with_reducible rfl))
        try simp only [Act.put, List.setIfInBounds_toArray, List.set_cons_zero, List.set_cons_succ]
        refine regTake (i := 14) (v := ?vg1_14) rfl (by kernel_rfl) (by kernel_rfl) (by kernel_rfl) (fun _ _ _ h => h) (Or.inl ⟨by rfl, ?hyg1_14⟩) (by assumption) ?_
        case hyg1_14 => (intro w hSw; (try dsimp only at hSw); go_simp; (try with_reducible rfl))
        try simp only [Act.put, List.setIfInBounds_toArray, List.set_cons_zero, List.set_cons_succ]
        refine regTake (i := 16) (v := ?vg1_16) rfl (by kernel_rfl) (by kernel_rfl) (by kernel_rfl) (fun _ _ _ h => h) (Or.inl ⟨by rfl, ?hyg1_16⟩) (by assumption) ?_
        case hyg1_16 => (intro w hSw; (try dsimp only at hSw); go_simp; (try with_reducible rfl))
        try simp only [Act.put, List.setIfInBounds_toArray, List.set_cons_zero, List.set_cons_succ]
        refine wpAnyH_ready (rs := [15]) (by kernel_rfl) (by simp) ?_
        refine regCons rfl (fun K hK => ?_)
        go_simp
        refine (HAA.out _ (below_trans HB3.out (hkg1_1))).mono ?_
        rintro e yg1_2 ⟨rfl, hyg1_2⟩
        have hkg1_2 := below_trans (hkg1_1) hyg1_2
        refine hK.out _ _ ?_ (fun hS3 => ?_)
        · (refine (fun hB => ⟨hB, cell_keep x0 hB, cell_keep x1 hB, cell_keep x2 hB, cell_keep x3 hB, cell_keep x4 hB, cell_keep x5 hB⟩ : Below (w3).heap.size (w3) _ → _) ?_; exact hkg1_2)
        clear hK K hS2
        try simp only [Act.put, List.setIfInBounds_toArray, List.set_cons_zero, List.set_cons_succ]
        refine wpAnyH_ready (rs := [17]) (by kernel_rfl) (by simp) ?_
        refine regCons rfl (fun K hK => ?_)
        go_simp
        refine (HV.out _ (below_trans HB3.out (hkg1_2))).mono ?_
        rintro e yg1_3 ⟨rfl, hyg1_3⟩
        have hkg1_3 := below_trans (hkg1_2) hyg1_3
        refine hK.out _ _ ?_ (fun hS4 => ?_)
        · (refine (fun hB => ⟨hB, cell_keep x0 hB, cell_keep x1 hB, cell_keep x2 hB, cell_keep x3 hB, cell_keep x4 hB, cell_keep x5 hB⟩ : Below (w3).heap.size (w3) _ → _) ?_; exact hkg1_3)
        clear hK K hS3
        try simp only [Act.put, List.setIfInBounds_toArray, List.set_cons_zero, List.set_cons_succ]
        refine regTake (i := 18) (v := ?vg1_18) rfl (by kernel_rfl) (by kernel_rfl) (by kernel_rfl) (fun _ _ _ h => h) (Or.inl ⟨by rfl, ?hyg1_18⟩) (by assumption) ?_
        case hyg1_18 => (intro w hSw; (try dsimp only at hSw); go_simp; (try with_reducible rfl))
        try simp only [Act.put, List.setIfInBounds_toArray, List.set_cons_zero, List.set_cons_succ]
        refine regTake (i := 19) (v := .bool false) rfl (by kernel_rfl) (by kernel_rfl) (by kernel_rfl) (fun _ _ _ h => h) (Or.inl ⟨by rfl, ?hyg1_19⟩) (by assumption) ?_
        case hyg1_19 => (intro w hSw; (try dsimp only at hSw); go_simp; (try with_reducible rfl))
        try simp only [Act.put, List.setIfInBounds_toArray, List.set_cons_zero, List.set_cons_succ]
        refine wpAnyH_done (by kernel_rfl) ?_ _
        have hlg1_ := below_trans HB3.out hkg1_3
        replace x0 := cell_keep x0 hkg1_3
        replace x1 := cell_keep x1 hkg1_3
        replace x2 := cell_keep x2 hkg1_3
        replace x3 := cell_keep x3 hkg1_3
        replace x4 := cell_keep x4 hkg1_3
        replace x5 := cell_keep x5 hkg1_3
        go_wp2_with fail
        go_ret
        exact ⟨rfl, below_trans HBL.out hlg1_⟩
      · go_wp2_with fail
        refine wp_region_held_drew (S := (fun w' => Below (w3).heap.size (w3) w' ∧ w'.cell? ⟨w1.heap.size, 0, none⟩ = some (.int .i64 k1) ∧ w'.cell? ⟨w1.heap.size, 1, none⟩ = some (.slice a1 n1 c1) ∧ w'.cell? ⟨w1.heap.size + 1, 0, none⟩ = some (.int .i64 k2) ∧ w'.cell? ⟨w1.heap.size + 1, 1, none⟩ = some (.slice a2 n2 c2) ∧ w'.cell? ⟨w1.heap.size + 1 + 1, 0, none⟩ = some (.int .i64 k3) ∧ w'.cell? ⟨w1.heap.size + 1 + 1, 1, none⟩ = some (.slice a3 n3 c3))) (by kernel_rfl) ?_ (fun hS0 => ?_)
        · (refine (fun hB => ⟨hB, cell_keep x0 hB, cell_keep x1 hB, cell_keep x2 hB, cell_keep x3 hB, cell_keep x4 hB, cell_keep x5 hB⟩ : Below (w3).heap.size (w3) _ → _) ?_; exact below_drew _)
        refine regTake (i := 0) (v := ?vg2_0) rfl (by kernel_rfl) (by kernel_rfl) (by kernel_rfl) (fun _ _ _ h => h) (Or.inl ⟨by rfl, ?hyg2_0⟩) (by assumption) ?_
        case hyg2_0 => (intro w hSw; (try dsimp only at hSw); go_simp; (try with_reducible rfl))
        try simp only [Act.put, List.setIfInBounds_toArray, List.set_cons_zero, List.set_cons_succ]
        refine regTake (i := 1) (v := ?vg2_1) rfl (by kernel_rfl) (by kernel_rfl) (by kernel_rfl) (fun _ _ _ h => h) (Or.inl ⟨by rfl, ?hyg2_1⟩) (by assumption) ?_
        case hyg2_1 => (intro w hSw; (try dsimp only at hSw); go_simp; (try with_reducible rfl))
        try simp only [Act.put, List.setIfInBounds_toArray, List.set_cons_zero, List.set_cons_succ]
        refine regTake (i := 2) (v := ?vg2_2) rfl (by kernel_rfl) (by kernel_rfl) (by kernel_rfl) (fun _ _ _ h => h) (Or.inl ⟨by rfl, ?hyg2_2⟩) (by assumption) ?_
        case hyg2_2 => (intro w hSw; (try dsimp only at hSw); go_simp; (try with_reducible rfl))
        try simp only [Act.put, List.setIfInBounds_toArray, List.set_cons_zero, List.set_cons_succ]
        refine wpAnyH_ready (rs := [3]) (by kernel_rfl) (by simp) ?_
        refine regCons rfl (fun K hK => ?_)
        go_simp
        refine (HSP.out _ (below_trans HB3.out (below_drew (w3)))).mono ?_
        rintro e yg2_0 ⟨rfl, hyg2_0⟩
        have hkg2_0 := below_trans (below_drew (w3)) hyg2_0
        refine hK.out _ _ ?_ (fun hS1 => ?_)
        · (refine (fun hB => ⟨hB, cell_keep x0 hB, cell_keep x1 hB, cell_keep x2 hB, cell_keep x3 hB, cell_keep x4 hB, cell_keep x5 hB⟩ : Below (w3).heap.size (w3) _ → _) ?_; exact hkg2_0)
        clear hK K hS0
        try simp only [Act.put, List.setIfInBounds_toArray, List.set_cons_zero, List.set_cons_succ]
        refine regTake (i := 4) (v := ?vg2_4) rfl (by kernel_rfl) (by kernel_rfl) (by kernel_rfl) (fun _ _ _ h => h) (Or.inl ⟨by rfl, ?hyg2_4⟩) (by assumption) ?_
        case hyg2_4 => (intro w hSw; (try dsimp only at hSw); go_simp; (try with_reducible rfl))
        try simp only [Act.put, List.setIfInBounds_toArray, List.set_cons_zero, List.set_cons_succ]
        refine regTake (i := 5) (v := ?vg2_5) rfl (by kernel_rfl) (by kernel_rfl) (by kernel_rfl) (fun _ _ _ h => h) (Or.inl ⟨by rfl, ?hyg2_5⟩) (by assumption) ?_
        case hyg2_5 => (intro w hSw; (try dsimp only at hSw); go_simp; (try with_reducible rfl))
        try simp only [Act.put, List.setIfInBounds_toArray, List.set_cons_zero, List.set_cons_succ]
        refine regTake (i := 6) (v := ?vg2_6) rfl (by kernel_rfl) (by kernel_rfl) (by kernel_rfl) (fun _ _ _ h => h) (Or.inl ⟨by rfl, ?hyg2_6⟩) (by assumption) ?_
        case hyg2_6 => (intro w hSw; (try dsimp only at hSw); go_simp; (try with_reducible rfl))
        try simp only [Act.put, List.setIfInBounds_toArray, List.set_cons_zero, List.set_cons_succ]
        refine regTake (i := 7) (v := ?vg2_7) rfl (by kernel_rfl) (by kernel_rfl) (by kernel_rfl) (fun _ _ _ h => h) (Or.inl ⟨by rfl, ?hyg2_7⟩) (by assumption) ?_
        case hyg2_7 => (intro w hSw; (try dsimp only at hSw); go_simp; (try with_reducible rfl))
        try simp only [Act.put, List.setIfInBounds_toArray, List.set_cons_zero, List.set_cons_succ]
        refine regTake (i := 8) (v := ?vg2_8) rfl (by kernel_rfl) (by kernel_rfl) (by kernel_rfl) (fun _ _ _ h => h) (Or.inl ⟨by rfl, ?hyg2_8⟩) (by assumption) ?_
        case hyg2_8 => (intro w hSw; (try dsimp only at hSw); go_simp; (try with_reducible rfl))
        try simp only [Act.put, List.setIfInBounds_toArray, List.set_cons_zero, List.set_cons_succ]
        refine wpAnyH_ready (rs := [9]) (by kernel_rfl) (by simp) ?_
        refine regCons rfl (fun K hK => ?_)
        go_simp
        refine (HSQ.out _ (below_trans HB3.out (hkg2_0))).mono ?_
        rintro e yg2_1 ⟨rfl, hyg2_1⟩
        have hkg2_1 := below_trans (hkg2_0) hyg2_1
        refine hK.out _ _ ?_ (fun hS2 => ?_)
        · (refine (fun hB => ⟨hB, cell_keep x0 hB, cell_keep x1 hB, cell_keep x2 hB, cell_keep x3 hB, cell_keep x4 hB, cell_keep x5 hB⟩ : Below (w3).heap.size (w3) _ → _) ?_; exact hkg2_1)
        clear hK K hS1
        try simp only [Act.put, List.setIfInBounds_toArray, List.set_cons_zero, List.set_cons_succ]
        refine regTake (i := 10) (v := ?vg2_10) rfl (by kernel_rfl) (by kernel_rfl) (by kernel_rfl) (fun _ _ _ h => h) (Or.inl ⟨by rfl, ?hyg2_10⟩) (by assumption) ?_
        case hyg2_10 => (intro w hSw; (try dsimp only at hSw); go_simp; (try with_reducible rfl))
        try simp only [Act.put, List.setIfInBounds_toArray, List.set_cons_zero, List.set_cons_succ]
        refine regTake (i := 11) (v := .bool false) rfl (by kernel_rfl) (by kernel_rfl) (by kernel_rfl) (fun _ _ _ h => h) (Or.inl ⟨by rfl, ?hyg2_11⟩) (by assumption) ?_
        case hyg2_11 => (intro w hSw; (try dsimp only at hSw); go_simp; (try with_reducible rfl))
        try simp only [Act.put, List.setIfInBounds_toArray, List.set_cons_zero, List.set_cons_succ]
        refine regTake (i := 12) (v := ?vg2_12) rfl (by kernel_rfl) (by kernel_rfl) (by kernel_rfl) (fun _ _ _ h => h) (Or.inl ⟨by rfl, ?hyg2_12⟩) (by assumption) ?_
        case hyg2_12 => (intro w hSw; (try dsimp only at hSw); go_simp; (try with_reducible rfl))
        try simp only [Act.put, List.setIfInBounds_toArray, List.set_cons_zero, List.set_cons_succ]
        refine regTake (i := 13) (v := ?vg2_13) rfl (by kernel_rfl) (by kernel_rfl) (by kernel_rfl) (fun _ _ _ h => h) (Or.inl ⟨by rfl, ?hyg2_13⟩) (by assumption) ?_
        case hyg2_13 => (intro w hSw; (try dsimp only at hSw); go_simp; (try with_reducible rfl))
        try simp only [Act.put, List.setIfInBounds_toArray, List.set_cons_zero, List.set_cons_succ]
        refine regTake (i := 14) (v := ?vg2_14) rfl (by kernel_rfl) (by kernel_rfl) (by kernel_rfl) (fun _ _ _ h => h) (Or.inl ⟨by rfl, ?hyg2_14⟩) (by assumption) ?_
        case hyg2_14 => (intro w hSw; (try dsimp only at hSw); go_simp; (try with_reducible rfl))
        try simp only [Act.put, List.setIfInBounds_toArray, List.set_cons_zero, List.set_cons_succ]
        refine regTake (i := 16) (v := ?vg2_16) rfl (by kernel_rfl) (by kernel_rfl) (by kernel_rfl) (fun _ _ _ h => h) (Or.inl ⟨by rfl, ?hyg2_16⟩) (by assumption) ?_
        case hyg2_16 => (intro w hSw; (try dsimp only at hSw); go_simp; (try with_reducible rfl))
        try simp only [Act.put, List.setIfInBounds_toArray, List.set_cons_zero, List.set_cons_succ]
        refine wpAnyH_ready (rs := [15]) (by kernel_rfl) (by simp) ?_
        refine regCons rfl (fun K hK => ?_)
        go_simp
        refine (HAA.out _ (below_trans HB3.out (hkg2_1))).mono ?_
        rintro e yg2_2 ⟨rfl, hyg2_2⟩
        have hkg2_2 := below_trans (hkg2_1) hyg2_2
        refine hK.out _ _ ?_ (fun hS3 => ?_)
        · (refine (fun hB => ⟨hB, cell_keep x0 hB, cell_keep x1 hB, cell_keep x2 hB, cell_keep x3 hB, cell_keep x4 hB, cell_keep x5 hB⟩ : Below (w3).heap.size (w3) _ → _) ?_; exact hkg2_2)
        clear hK K hS2
        try simp only [Act.put, List.setIfInBounds_toArray, List.set_cons_zero, List.set_cons_succ]
        refine wpAnyH_ready (rs := [17]) (by kernel_rfl) (by simp) ?_
        refine regCons rfl (fun K hK => ?_)
        go_simp
        refine (HV.out _ (below_trans HB3.out (hkg2_2))).mono ?_
        rintro e yg2_3 ⟨rfl, hyg2_3⟩
        have hkg2_3 := below_trans (hkg2_2) hyg2_3
        refine hK.out _ _ ?_ (fun hS4 => ?_)
        · (refine (fun hB => ⟨hB, cell_keep x0 hB, cell_keep x1 hB, cell_keep x2 hB, cell_keep x3 hB, cell_keep x4 hB, cell_keep x5 hB⟩ : Below (w3).heap.size (w3) _ → _) ?_; exact hkg2_3)
        clear hK K hS3
        try simp only [Act.put, List.setIfInBounds_toArray, List.set_cons_zero, List.set_cons_succ]
        refine regTake (i := 18) (v := ?vg2_18) rfl (by kernel_rfl) (by kernel_rfl) (by kernel_rfl) (fun _ _ _ h => h) (Or.inl ⟨by rfl, ?hyg2_18⟩) (by assumption) ?_
        case hyg2_18 => (intro w hSw; (try dsimp only at hSw); go_simp; (try with_reducible rfl))
        try simp only [Act.put, List.setIfInBounds_toArray, List.set_cons_zero, List.set_cons_succ]
        refine regTake (i := 19) (v := .bool false) rfl (by kernel_rfl) (by kernel_rfl) (by kernel_rfl) (fun _ _ _ h => h) (Or.inl ⟨by rfl, ?hyg2_19⟩) (by assumption) ?_
        case hyg2_19 => (intro w hSw; (try dsimp only at hSw); go_simp; (try with_reducible rfl))
        try simp only [Act.put, List.setIfInBounds_toArray, List.set_cons_zero, List.set_cons_succ]
        refine wpAnyH_done (by kernel_rfl) ?_ _
        have hlg2_ := below_trans HB3.out hkg2_3
        replace x0 := cell_keep x0 hkg2_3
        replace x1 := cell_keep x1 hkg2_3
        replace x2 := cell_keep x2 hkg2_3
        replace x3 := cell_keep x3 hkg2_3
        replace x4 := cell_keep x4 hkg2_3
        replace x5 := cell_keep x5 hkg2_3
        go_wp2_with fail
        go_ret
        exact ⟨rfl, below_trans HBL.out hlg2_⟩
    · cases vv
      · go_wp2_with fail
        refine wp_region_held_drew (S := (fun w' => Below (w3).heap.size (w3) w' ∧ w'.cell? ⟨w1.heap.size, 0, none⟩ = some (.int .i64 k1) ∧ w'.cell? ⟨w1.heap.size, 1, none⟩ = some (.slice a1 n1 c1) ∧ w'.cell? ⟨w1.heap.size + 1, 0, none⟩ = some (.int .i64 k2) ∧ w'.cell? ⟨w1.heap.size + 1, 1, none⟩ = some (.slice a2 n2 c2) ∧ w'.cell? ⟨w1.heap.size + 1 + 1, 0, none⟩ = some (.int .i64 k3) ∧ w'.cell? ⟨w1.heap.size + 1 + 1, 1, none⟩ = some (.slice a3 n3 c3))) (by kernel_rfl) ?_ (fun hS0 => ?_)
        · (refine (fun hB => ⟨hB, cell_keep x0 hB, cell_keep x1 hB, cell_keep x2 hB, cell_keep x3 hB, cell_keep x4 hB, cell_keep x5 hB⟩ : Below (w3).heap.size (w3) _ → _) ?_; exact below_drew _)
        refine regTake (i := 0) (v := ?vg3_0) rfl (by kernel_rfl) (by kernel_rfl) (by kernel_rfl) (fun _ _ _ h => h) (Or.inl ⟨by rfl, ?hyg3_0⟩) (by assumption) ?_
        case hyg3_0 => (intro w hSw; (try dsimp only at hSw); go_simp; (try with_reducible rfl))
        try simp only [Act.put, List.setIfInBounds_toArray, List.set_cons_zero, List.set_cons_succ]
        refine regTake (i := 1) (v := ?vg3_1) rfl (by kernel_rfl) (by kernel_rfl) (by kernel_rfl) (fun _ _ _ h => h) (Or.inl ⟨by rfl, ?hyg3_1⟩) (by assumption) ?_
        case hyg3_1 => (intro w hSw; (try dsimp only at hSw); go_simp; (try with_reducible rfl))
        try simp only [Act.put, List.setIfInBounds_toArray, List.set_cons_zero, List.set_cons_succ]
        refine regTake (i := 2) (v := ?vg3_2) rfl (by kernel_rfl) (by kernel_rfl) (by kernel_rfl) (fun _ _ _ h => h) (Or.inl ⟨by rfl, ?hyg3_2⟩) (by assumption) ?_
        case hyg3_2 => (intro w hSw; (try dsimp only at hSw); go_simp; (try with_reducible rfl))
        try simp only [Act.put, List.setIfInBounds_toArray, List.set_cons_zero, List.set_cons_succ]
        refine wpAnyH_ready (rs := [3]) (by kernel_rfl) (by simp) ?_
        refine regCons rfl (fun K hK => ?_)
        go_simp
        refine (HSP.out _ (below_trans HB3.out (below_drew (w3)))).mono ?_
        rintro e yg3_0 ⟨rfl, hyg3_0⟩
        have hkg3_0 := below_trans (below_drew (w3)) hyg3_0
        refine hK.out _ _ ?_ (fun hS1 => ?_)
        · (refine (fun hB => ⟨hB, cell_keep x0 hB, cell_keep x1 hB, cell_keep x2 hB, cell_keep x3 hB, cell_keep x4 hB, cell_keep x5 hB⟩ : Below (w3).heap.size (w3) _ → _) ?_; exact hkg3_0)
        clear hK K hS0
        try simp only [Act.put, List.setIfInBounds_toArray, List.set_cons_zero, List.set_cons_succ]
        refine regTake (i := 4) (v := ?vg3_4) rfl (by kernel_rfl) (by kernel_rfl) (by kernel_rfl) (fun _ _ _ h => h) (Or.inl ⟨by rfl, ?hyg3_4⟩) (by assumption) ?_
        case hyg3_4 => (intro w hSw; (try dsimp only at hSw); go_simp; (try with_reducible rfl))
        try simp only [Act.put, List.setIfInBounds_toArray, List.set_cons_zero, List.set_cons_succ]
        refine regTake (i := 5) (v := ?vg3_5) rfl (by kernel_rfl) (by kernel_rfl) (by kernel_rfl) (fun _ _ _ h => h) (Or.inl ⟨by rfl, ?hyg3_5⟩) (by assumption) ?_
        case hyg3_5 => (intro w hSw; (try dsimp only at hSw); go_simp; (try with_reducible rfl))
        try simp only [Act.put, List.setIfInBounds_toArray, List.set_cons_zero, List.set_cons_succ]
        refine regTake (i := 6) (v := ?vg3_6) rfl (by kernel_rfl) (by kernel_rfl) (by kernel_rfl) (fun _ _ _ h => h) (Or.inl ⟨by rfl, ?hyg3_6⟩) (by assumption) ?_
        case hyg3_6 => (intro w hSw; (try dsimp only at hSw); go_simp; (try with_reducible rfl))
        try simp only [Act.put, List.setIfInBounds_toArray, List.set_cons_zero, List.set_cons_succ]
        refine regTake (i := 7) (v := ?vg3_7) rfl (by kernel_rfl) (by kernel_rfl) (by kernel_rfl) (fun _ _ _ h => h) (Or.inl ⟨by rfl, ?hyg3_7⟩) (by assumption) ?_
        case hyg3_7 => (intro w hSw; (try dsimp only at hSw); go_simp; (try with_reducible rfl))
        try simp only [Act.put, List.setIfInBounds_toArray, List.set_cons_zero, List.set_cons_succ]
        refine regTake (i := 8) (v := ?vg3_8) rfl (by kernel_rfl) (by kernel_rfl) (by kernel_rfl) (fun _ _ _ h => h) (Or.inl ⟨by rfl, ?hyg3_8⟩) (by assumption) ?_
        case hyg3_8 => (intro w hSw; (try dsimp only at hSw); go_simp; (try with_reducible rfl))
        try simp only [Act.put, List.setIfInBounds_toArray, List.set_cons_zero, List.set_cons_succ]
        refine wpAnyH_ready (rs := [9]) (by kernel_rfl) (by simp) ?_
        refine regCons rfl (fun K hK => ?_)
        go_simp
        refine (HSQ.out _ (below_trans HB3.out (hkg3_0))).mono ?_
        rintro e yg3_1 ⟨rfl, hyg3_1⟩
        have hkg3_1 := below_trans (hkg3_0) hyg3_1
        refine hK.out _ _ ?_ (fun hS2 => ?_)
        · (refine (fun hB => ⟨hB, cell_keep x0 hB, cell_keep x1 hB, cell_keep x2 hB, cell_keep x3 hB, cell_keep x4 hB, cell_keep x5 hB⟩ : Below (w3).heap.size (w3) _ → _) ?_; exact hkg3_1)
        clear hK K hS1
        try simp only [Act.put, List.setIfInBounds_toArray, List.set_cons_zero, List.set_cons_succ]
        refine regTake (i := 10) (v := ?vg3_10) rfl (by kernel_rfl) (by kernel_rfl) (by kernel_rfl) (fun _ _ _ h => h) (Or.inl ⟨by rfl, ?hyg3_10⟩) (by assumption) ?_
        case hyg3_10 => (intro w hSw; (try dsimp only at hSw); go_simp; (try with_reducible rfl))
        try simp only [Act.put, List.setIfInBounds_toArray, List.set_cons_zero, List.set_cons_succ]
        refine regTake (i := 11) (v := .bool false) rfl (by kernel_rfl) (by kernel_rfl) (by kernel_rfl) (fun _ _ _ h => h) (Or.inl ⟨by rfl, ?hyg3_11⟩) (by assumption) ?_
        case hyg3_11 => (intro w hSw; (try dsimp only at hSw); go_simp; (try with_reducible rfl))
        try simp only [Act.put, List.setIfInBounds_toArray, List.set_cons_zero, List.set_cons_succ]
        refine regTake (i := 12) (v := ?vg3_12) rfl (by kernel_rfl) (by kernel_rfl) (by kernel_rfl) (fun _ _ _ h => h) (Or.inl ⟨by rfl, ?hyg3_12⟩) (by assumption) ?_
        case hyg3_12 => (intro w hSw; (try dsimp only at hSw); go_simp; (try with_reducible rfl))
        try simp only [Act.put, List.setIfInBounds_toArray, List.set_cons_zero, List.set_cons_succ]
        refine regTake (i := 13) (v := ?vg3_13) rfl (by kernel_rfl) (by kernel_rfl) (by kernel_rfl) (fun _ _ _ h => h) (Or.inl ⟨by rfl, ?hyg3_13⟩) (by assumption) ?_
        case hyg3_13 => (intro w hSw; (try dsimp only at hSw); go_simp; (try with_reducible rfl))
        try simp only [Act.put, List.setIfInBounds_toArray, List.set_cons_zero, List.set_cons_succ]
        refine regTake (i := 14) (v := ?vg3_14) rfl (by kernel_rfl) (by kernel_rfl) (by kernel_rfl) (fun _ _ _ h => h) (Or.inl ⟨by rfl, ?hyg3_14⟩) (by assumption) ?_
        case hyg3_14 => (intro w hSw; (try dsimp only at hSw); go_simp; (try with_reducible rfl))
        try simp only [Act.put, List.setIfInBounds_toArray, List.set_cons_zero, List.set_cons_succ]
        refine regTake (i := 16) (v := ?vg3_16) rfl (by kernel_rfl) (by kernel_rfl) (by kernel_rfl) (fun _ _ _ h => h) (Or.inl ⟨by rfl, ?hyg3_16⟩) (by assumption) ?_
        case hyg3_16 => (intro w hSw; (try dsimp only at hSw); go_simp; (try with_reducible rfl))
        try simp only [Act.put, List.setIfInBounds_toArray, List.set_cons_zero, List.set_cons_succ]
        refine wpAnyH_ready (rs := [15]) (by kernel_rfl) (by simp) ?_
        refine regCons rfl (fun K hK => ?_)
        go_simp
        refine (HAA.out _ (below_trans HB3.out (hkg3_1))).mono ?_
        rintro e yg3_2 ⟨rfl, hyg3_2⟩
        have hkg3_2 := below_trans (hkg3_1) hyg3_2
        refine hK.out _ _ ?_ (fun hS3 => ?_)
        · (refine (fun hB => ⟨hB, cell_keep x0 hB, cell_keep x1 hB, cell_keep x2 hB, cell_keep x3 hB, cell_keep x4 hB, cell_keep x5 hB⟩ : Below (w3).heap.size (w3) _ → _) ?_; exact hkg3_2)
        clear hK K hS2
        try simp only [Act.put, List.setIfInBounds_toArray, List.set_cons_zero, List.set_cons_succ]
        refine wpAnyH_ready (rs := [17]) (by kernel_rfl) (by simp) ?_
        refine regCons rfl (fun K hK => ?_)
        go_simp
        refine (HV.out _ (below_trans HB3.out (hkg3_2))).mono ?_
        rintro e yg3_3 ⟨rfl, hyg3_3⟩
        have hkg3_3 := below_trans (hkg3_2) hyg3_3
        refine hK.out _ _ ?_ (fun hS4 => ?_)
        · (refine (fun hB => ⟨hB, cell_keep x0 hB, cell_keep x1 hB, cell_keep x2 hB, cell_keep x3 hB, cell_keep x4 hB, cell_keep x5 hB⟩ : Below (w3).heap.size (w3) _ → _) ?_; exact hkg3_3)
        clear hK K hS3
        try simp only [Act.put, List.setIfInBounds_toArray, List.set_cons_zero, List.set_cons_succ]
        refine regTake (i := 18) (v := ?vg3_18) rfl (by kernel_rfl) (by kernel_rfl) (by kernel_rfl) (fun _ _ _ h => h) (Or.inl ⟨by rfl, ?hyg3_18⟩) (by assumption) ?_
        case hyg3_18 => (intro w hSw; (try dsimp only at hSw); go_simp; (try with_reducible rfl))
        try simp only [Act.put, List.setIfInBounds_toArray, List.set_cons_zero, List.set_cons_succ]
        refine regTake (i := 19) (v := .bool false) rfl (by kernel_rfl) (by kernel_rfl) (by kernel_rfl) (fun _ _ _ h => h) (Or.inl ⟨by rfl, ?hyg3_19⟩) (by assumption) ?_
        case hyg3_19 => (intro w hSw; (try dsimp only at hSw); go_simp; (try with_reducible rfl))
        try simp only [Act.put, List.setIfInBounds_toArray, List.set_cons_zero, List.set_cons_succ]
        refine wpAnyH_done (by kernel_rfl) ?_ _
        have hlg3_ := below_trans HB3.out hkg3_3
        replace x0 := cell_keep x0 hkg3_3
        replace x1 := cell_keep x1 hkg3_3
        replace x2 := cell_keep x2 hkg3_3
        replace x3 := cell_keep x3 hkg3_3
        replace x4 := cell_keep x4 hkg3_3
        replace x5 := cell_keep x5 hkg3_3
        go_wp2_with fail
        go_ret
        exact ⟨rfl, below_trans HBL.out hlg3_⟩
      · go_wp2_with fail
        refine wp_region_held_drew (S := (fun w' => Below (w3).heap.size (w3) w' ∧ w'.cell? ⟨w1.heap.size, 0, none⟩ = some (.int .i64 k1) ∧ w'.cell? ⟨w1.heap.size, 1, none⟩ = some (.slice a1 n1 c1) ∧ w'.cell? ⟨w1.heap.size + 1, 0, none⟩ = some (.int .i64 k2) ∧ w'.cell? ⟨w1.heap.size + 1, 1, none⟩ = some (.slice a2 n2 c2) ∧ w'.cell? ⟨w1.heap.size + 1 + 1, 0, none⟩ = some (.int .i64 k3) ∧ w'.cell? ⟨w1.heap.size + 1 + 1, 1, none⟩ = some (.slice a3 n3 c3))) (by kernel_rfl) ?_ (fun hS0 => ?_)
        · (refine (fun hB => ⟨hB, cell_keep x0 hB, cell_keep x1 hB, cell_keep x2 hB, cell_keep x3 hB, cell_keep x4 hB, cell_keep x5 hB⟩ : Below (w3).heap.size (w3) _ → _) ?_; exact below_drew _)
        refine regTake (i := 0) (v := ?vg4_0) rfl (by kernel_rfl) (by kernel_rfl) (by kernel_rfl) (fun _ _ _ h => h) (Or.inl ⟨by rfl, ?hyg4_0⟩) (by assumption) ?_
        case hyg4_0 => (intro w hSw; (try dsimp only at hSw); go_simp; (try with_reducible rfl))
        try simp only [Act.put, List.setIfInBounds_toArray, List.set_cons_zero, List.set_cons_succ]
        refine regTake (i := 1) (v := ?vg4_1) rfl (by kernel_rfl) (by kernel_rfl) (by kernel_rfl) (fun _ _ _ h => h) (Or.inl ⟨by rfl, ?hyg4_1⟩) (by assumption) ?_
        case hyg4_1 => (intro w hSw; (try dsimp only at hSw); go_simp; (try with_reducible rfl))
        try simp only [Act.put, List.setIfInBounds_toArray, List.set_cons_zero, List.set_cons_succ]
        refine regTake (i := 2) (v := ?vg4_2) rfl (by kernel_rfl) (by kernel_rfl) (by kernel_rfl) (fun _ _ _ h => h) (Or.inl ⟨by rfl, ?hyg4_2⟩) (by assumption) ?_
        case hyg4_2 => (intro w hSw; (try dsimp only at hSw); go_simp; (try with_reducible rfl))
        try simp only [Act.put, List.setIfInBounds_toArray, List.set_cons_zero, List.set_cons_succ]
        refine wpAnyH_ready (rs := [3]) (by kernel_rfl) (by simp) ?_
        refine regCons rfl (fun K hK => ?_)
        go_simp
        refine (HSP.out _ (below_trans HB3.out (below_drew (w3)))).mono ?_
        rintro e yg4_0 ⟨rfl, hyg4_0⟩
        have hkg4_0 := below_trans (below_drew (w3)) hyg4_0
        refine hK.out _ _ ?_ (fun hS1 => ?_)
        · (refine (fun hB => ⟨hB, cell_keep x0 hB, cell_keep x1 hB, cell_keep x2 hB, cell_keep x3 hB, cell_keep x4 hB, cell_keep x5 hB⟩ : Below (w3).heap.size (w3) _ → _) ?_; exact hkg4_0)
        clear hK K hS0
        try simp only [Act.put, List.setIfInBounds_toArray, List.set_cons_zero, List.set_cons_succ]
        refine regTake (i := 4) (v := ?vg4_4) rfl (by kernel_rfl) (by kernel_rfl) (by kernel_rfl) (fun _ _ _ h => h) (Or.inl ⟨by rfl, ?hyg4_4⟩) (by assumption) ?_
        case hyg4_4 => (intro w hSw; (try dsimp only at hSw); go_simp; (try with_reducible rfl))
        try simp only [Act.put, List.setIfInBounds_toArray, List.set_cons_zero, List.set_cons_succ]
        refine regTake (i := 5) (v := ?vg4_5) rfl (by kernel_rfl) (by kernel_rfl) (by kernel_rfl) (fun _ _ _ h => h) (Or.inl ⟨by rfl, ?hyg4_5⟩) (by assumption) ?_
        case hyg4_5 => (intro w hSw; (try dsimp only at hSw); go_simp; (try with_reducible rfl))
        try simp only [Act.put, List.setIfInBounds_toArray, List.set_cons_zero, List.set_cons_succ]
        refine regTake (i := 6) (v := ?vg4_6) rfl (by kernel_rfl) (by kernel_rfl) (by kernel_rfl) (fun _ _ _ h => h) (Or.inl ⟨by rfl, ?hyg4_6⟩) (by assumption) ?_
        case hyg4_6 => (intro w hSw; (try dsimp only at hSw); go_simp; (try with_reducible rfl))
        try simp only [Act.put, List.setIfInBounds_toArray, List.set_cons_zero, List.set_cons_succ]
        refine regTake (i := 7) (v := ?vg4_7) rfl (by kernel_rfl) (by kernel_rfl) (by kernel_rfl) (fun _ _ _ h => h) (Or.inl ⟨by rfl, ?hyg4_7⟩) (by assumption) ?_
        case hyg4_7 => (intro w hSw; (try dsimp only at hSw); go_simp; (try with_reducible rfl))
        try simp only [Act.put, List.setIfInBounds_toArray, List.set_cons_zero, List.set_cons_succ]
        refine regTake (i := 8) (v := ?vg4_8) rfl (by kernel_rfl) (by kernel_rfl) (by kernel_rfl) (fun _ _ _ h => h) (Or.inl ⟨by rfl, ?hyg4_8⟩) (by assumption) ?_
        case hyg4_8 => (intro w hSw; (try dsimp only at hSw); go_simp; (try with_reducible rfl))
        try simp only [Act.put, List.setIfInBounds_toArray, List.set_cons_zero, List.set_cons_succ]
        refine wpAnyH_ready (rs := [9]) (by kernel_rfl) (by simp) ?_
        refine regCons rfl (fun K hK => ?_)
        go_simp
        refine (HSQ.out _ (below_trans HB3.out (hkg4_0))).mono ?_
        rintro e yg4_1 ⟨rfl, hyg4_1⟩
        have hkg4_1 := below_trans (hkg4_0) hyg4_1
        refine hK.out _ _ ?_ (fun hS2 => ?_)
        · (refine (fun hB => ⟨hB, cell_keep x0 hB, cell_keep x1 hB, cell_keep x2 hB, cell_keep x3 hB, cell_keep x4 hB, cell_keep x5 hB⟩ : Below (w3).heap.size (w3) _ → _) ?_; exact hkg4_1)
        clear hK K hS1
        try simp only [Act.put, List.setIfInBounds_toArray, List.set_cons_zero, List.set_cons_succ]
        refine regTake (i := 10) (v := ?vg4_10) rfl (by kernel_rfl) (by kernel_rfl) (by kernel_rfl) (fun _ _ _ h => h) (Or.inl ⟨by rfl, ?hyg4_10⟩) (by assumption) ?_
        case hyg4_10 => (intro w hSw; (try dsimp only at hSw); go_simp; (try with_reducible rfl))
        try simp only [Act.put, List.setIfInBounds_toArray, List.set_cons_zero, List.set_cons_succ]
        refine regTake (i := 11) (v := .bool false) rfl (by kernel_rfl) (by kernel_rfl) (by kernel_rfl) (fun _ _ _ h => h) (Or.inl ⟨by rfl, ?hyg4_11⟩) (by assumption) ?_
        case hyg4_11 => (intro w hSw; (try dsimp only at hSw); go_simp; (try with_reducible rfl))
        try simp only [Act.put, List.setIfInBounds_toArray, List.set_cons_zero, List.set_cons_succ]
        refine regTake (i := 12) (v := ?vg4_12) rfl (by kernel_rfl) (by kernel_rfl) (by kernel_rfl) (fun _ _ _ h => h) (Or.inl ⟨by rfl, ?hyg4_12⟩) (by assumption) ?_
        case hyg4_12 => (intro w hSw; (try dsimp only at hSw); go_simp; (try with_reducible rfl))
        try simp only [Act.put, List.setIfInBounds_toArray, List.set_cons_zero, List.set_cons_succ]
        refine regTake (i := 13) (v := ?vg4_13) rfl (by kernel_rfl) (by kernel_rfl) (by kernel_rfl) (fun _ _ _ h => h) (Or.inl ⟨by rfl, ?hyg4_13⟩) (by assumption) ?_
        case hyg4_13 => (intro w hSw; (try dsimp only at hSw); go_simp; (try with_reducible rfl))
        try simp only [Act.put, List.setIfInBounds_toArray, List.set_cons_zero, List.set_cons_succ]
        refine regTake (i := 14) (v := ?vg4_14) rfl (by kernel_rfl) (by kernel_rfl) (by kernel_rfl) (fun _ _ _ h => h) (Or.inl ⟨by rfl, ?hyg4_14⟩) (by assumption) ?_
        case hyg4_14 => (intro w hSw; (try dsimp only at hSw); go_simp; (try with_reducible rfl))
        try simp only [Act.put, List.setIfInBounds_toArray, List.set_cons_zero, List.set_cons_succ]
        refine regTake (i := 16) (v := ?vg4_16) rfl (by kernel_rfl) (by kernel_rfl) (by kernel_rfl) (fun _ _ _ h => h) (Or.inl ⟨by rfl, ?hyg4_16⟩) (by assumption) ?_
        case hyg4_16 => (intro w hSw; (try dsimp only at hSw); go_simp; (try with_reducible rfl))
        try simp only [Act.put, List.setIfInBounds_toArray, List.set_cons_zero, List.set_cons_succ]
        refine wpAnyH_ready (rs := [15]) (by kernel_rfl) (by simp) ?_
        refine regCons rfl (fun K hK => ?_)
        go_simp
        refine (HAA.out _ (below_trans HB3.out (hkg4_1))).mono ?_
        rintro e yg4_2 ⟨rfl, hyg4_2⟩
        have hkg4_2 := below_trans (hkg4_1) hyg4_2
        refine hK.out _ _ ?_ (fun hS3 => ?_)
        · (refine (fun hB => ⟨hB, cell_keep x0 hB, cell_keep x1 hB, cell_keep x2 hB, cell_keep x3 hB, cell_keep x4 hB, cell_keep x5 hB⟩ : Below (w3).heap.size (w3) _ → _) ?_; exact hkg4_2)
        clear hK K hS2
        try simp only [Act.put, List.setIfInBounds_toArray, List.set_cons_zero, List.set_cons_succ]
        refine wpAnyH_ready (rs := [17]) (by kernel_rfl) (by simp) ?_
        refine regCons rfl (fun K hK => ?_)
        go_simp
        refine (HV.out _ (below_trans HB3.out (hkg4_2))).mono ?_
        rintro e yg4_3 ⟨rfl, hyg4_3⟩
        have hkg4_3 := below_trans (hkg4_2) hyg4_3
        refine hK.out _ _ ?_ (fun hS4 => ?_)
        · (refine (fun hB => ⟨hB, cell_keep x0 hB, cell_keep x1 hB, cell_keep x2 hB, cell_keep x3 hB, cell_keep x4 hB, cell_keep x5 hB⟩ : Below (w3).heap.size (w3) _ → _) ?_; exact hkg4_3)
        clear hK K hS3
        try simp only [Act.put, List.setIfInBounds_toArray, List.set_cons_zero, List.set_cons_succ]
        refine regTake (i := 18) (v := ?vg4_18) rfl (by kernel_rfl) (by kernel_rfl) (by kernel_rfl) (fun _ _ _ h => h) (Or.inl ⟨by rfl, ?hyg4_18⟩) (by assumption) ?_
        case hyg4_18 => (intro w hSw; (try dsimp only at hSw); go_simp; (try with_reducible rfl))
        try simp only [Act.put, List.setIfInBounds_toArray, List.set_cons_zero, List.set_cons_succ]
        refine regTake (i := 19) (v := .bool false) rfl (by kernel_rfl) (by kernel_rfl) (by kernel_rfl) (fun _ _ _ h => h) (Or.inl ⟨by rfl, ?hyg4_19⟩) (by assumption) ?_
        case hyg4_19 => (intro w hSw; (try dsimp only at hSw); go_simp; (try with_reducible rfl))
        try simp only [Act.put, List.setIfInBounds_toArray, List.set_cons_zero, List.set_cons_succ]
        refine wpAnyH_done (by kernel_rfl) ?_ _
        have hlg4_ := below_trans HB3.out hkg4_3
        replace x0 := cell_keep x0 hkg4_3
        replace x1 := cell_keep x1 hkg4_3
        replace x2 := cell_keep x2 hkg4_3
        replace x3 := cell_keep x3 hkg4_3
        replace x4 := cell_keep x4 hkg4_3
        replace x5 := cell_keep x5 hkg4_3
        go_wp2_with fail
        go_ret
        exact ⟨rfl, below_trans HBL.out hlg4_⟩
  · cases q
    · cases vv
      · go_wp2_with fail
        refine wp_region_held_drew (S := (fun w' => Below (w3).heap.size (w3) w' ∧ w'.cell? ⟨w1.heap.size, 0, none⟩ = some (.int .i64 k1) ∧ w'.cell? ⟨w1.heap.size, 1, none⟩ = some (.slice a1 n1 c1) ∧ w'.cell? ⟨w1.heap.size + 1, 0, none⟩ = some (.int .i64 k2) ∧ w'.cell? ⟨w1.heap.size + 1, 1, none⟩ = some (.slice a2 n2 c2) ∧ w'.cell? ⟨w1.heap.size + 1 + 1, 0, none⟩ = some (.int .i64 k3) ∧ w'.cell? ⟨w1.heap.size + 1 + 1, 1, none⟩ = some (.slice a3 n3 c3))) (by kernel_rfl) ?_ (fun hS0 => ?_)
        · (refine (fun hB => ⟨hB, cell_keep x0 hB, cell_keep x1 hB, cell_keep x2 hB, cell_keep x3 hB, cell_keep x4 hB, cell_keep x5 hB⟩ : Below (w3).heap.size (w3) _ → _) ?_; exact below_drew _)
        refine regTake (i := 0) (v := ?vg5_0) rfl (by kernel_rfl) (by kernel_rfl) (by kernel_rfl) (fun _ _ _ h => h) (Or.inl ⟨by rfl, ?hyg5_0⟩) (by assumption) ?_
        case hyg5_0 => (intro w hSw; (try dsimp only at hSw); go_simp; (try with_reducible rfl))
        try simp only [Act.put, List.setIfInBounds_toArray, List.set_cons_zero, List.set_cons_succ]
        refine regTake (i := 1) (v := ?vg5_1) rfl (by kernel_rfl) (by kernel_rfl) (by kernel_rfl) (fun _ _ _ h => h) (Or.inl ⟨by rfl, ?hyg5_1⟩) (by assumption) ?_
        case hyg5_1 => (intro w hSw; (try dsimp only at hSw); go_simp; (try with_reducible rfl))
        try simp only [Act.put, List.setIfInBounds_toArray, List.set_cons_zero, List.set_cons_succ]
        refine regTake (i := 2) (v := ?vg5_2) rfl (by kernel_rfl) (by kernel_rfl) (by kernel_rfl) (fun _ _ _ h => h) (Or.inl ⟨by rfl, ?hyg5_2⟩) (by assumption) ?_
        case hyg5_2 => (intro w hSw; (try dsimp only at hSw); go_simp; (try with_reducible rfl))
        try simp only [Act.put, List.setIfInBounds_toArray, List.set_cons_zero, List.set_cons_succ]
        refine wpAnyH_ready (rs := [3]) (by kernel_rfl) (by simp) ?_
        refine regCons rfl (fun K hK => ?_)
        go_simp
        refine (HSP.out _ (below_trans HB3.out (below_drew (w3)))).mono ?_
        rintro e yg5_0 ⟨rfl, hyg5_0⟩
        have hkg5_0 := below_trans (below_drew (w3)) hyg5_0
        refine hK.out _ _ ?_ (fun hS1 => ?_)
        · (refine (fun hB => ⟨hB, cell_keep x0 hB, cell_keep x1 hB, cell_keep x2 hB, cell_keep x3 hB, cell_keep x4 hB, cell_keep x5 hB⟩ : Below (w3).heap.size (w3) _ → _) ?_; exact hkg5_0)
        clear hK K hS0
        try simp only [Act.put, List.setIfInBounds_toArray, List.set_cons_zero, List.set_cons_succ]
        refine regTake (i := 4) (v := ?vg5_4) rfl (by kernel_rfl) (by kernel_rfl) (by kernel_rfl) (fun _ _ _ h => h) (Or.inl ⟨by rfl, ?hyg5_4⟩) (by assumption) ?_
        case hyg5_4 => (intro w hSw; (try dsimp only at hSw); go_simp; (try with_reducible rfl))
        try simp only [Act.put, List.setIfInBounds_toArray, List.set_cons_zero, List.set_cons_succ]
        refine regTake (i := 5) (v := ?vg5_5) rfl (by kernel_rfl) (by kernel_rfl) (by kernel_rfl) (fun _ _ _ h => h) (Or.inl ⟨by rfl, ?hyg5_5⟩) (by assumption) ?_
        case hyg5_5 => (intro w hSw; (try dsimp only at hSw); go_simp; (try with_reducible rfl))
        try simp only [Act.put, List.setIfInBounds_toArray, List.set_cons_zero, List.set_cons_succ]
        refine regTake (i := 6) (v := ?vg5_6) rfl (by kernel_rfl) (by kernel_rfl) (by kernel_rfl) (fun _ _ _ h => h) (Or.inl ⟨by rfl, ?hyg5_6⟩) (by assumption) ?_
        case hyg5_6 => (intro w hSw; (try dsimp only at hSw); go_simp; (try with_reducible rfl))
        try simp only [Act.put, List.setIfInBounds_toArray, List.set_cons_zero, List.set_cons_succ]
        refine regTake (i := 7) (v := ?vg5_7) rfl (by kernel_rfl) (by kernel_rfl) (by kernel_rfl) (fun _ _ _ h => h) (Or.inl ⟨by rfl, ?hyg5_7⟩) (by assumption) ?_
        case hyg5_7 => (intro w hSw; (try dsimp only at hSw); go_simp; (try with_reducible rfl))
        try simp only [Act.put, List.setIfInBounds_toArray, List.set_cons_zero, List.set_cons_succ]
        refine regTake (i := 8) (v := ?vg5_8) rfl (by kernel_rfl) (by kernel_rfl) (by kernel_rfl) (fun _ _ _ h => h) (Or.inl ⟨by rfl, ?hyg5_8⟩) (by assumption) ?_
        case hyg5_8 => (intro w hSw; (try dsimp only at hSw); go_simp; (try with_reducible rfl))
        try simp only [Act.put, List.setIfInBounds_toArray, List.set_cons_zero, List.set_cons_succ]
        refine wpAnyH_ready (rs := [9]) (by kernel_rfl) (by simp) ?_
        refine regCons rfl (fun K hK => ?_)
        go_simp
        refine (HSQ.out _ (below_trans HB3.out (hkg5_0))).mono ?_
        rintro e yg5_1 ⟨rfl, hyg5_1⟩
        have hkg5_1 := below_trans (hkg5_0) hyg5_1
        refine hK.out _ _ ?_ (fun hS2 => ?_)
        · (refine (fun hB => ⟨hB, cell_keep x0 hB, cell_keep x1 hB, cell_keep x2 hB, cell_keep x3 hB, cell_keep x4 hB, cell_keep x5 hB⟩ : Below (w3).heap.size (w3) _ → _) ?_; exact hkg5_1)
        clear hK K hS1
        try simp only [Act.put, List.setIfInBounds_toArray, List.set_cons_zero, List.set_cons_succ]
        refine regTake (i := 10) (v := ?vg5_10) rfl (by kernel_rfl) (by kernel_rfl) (by kernel_rfl) (fun _ _ _ h => h) (Or.inl ⟨by rfl, ?hyg5_10⟩) (by assumption) ?_
        case hyg5_10 => (intro w hSw; (try dsimp only at hSw); go_simp; (try with_reducible rfl))
        try simp only [Act.put, List.setIfInBounds_toArray, List.set_cons_zero, List.set_cons_succ]
        refine regTake (i := 11) (v := .bool false) rfl (by kernel_rfl) (by kernel_rfl) (by kernel_rfl) (fun _ _ _ h => h) (Or.inl ⟨by rfl, ?hyg5_11⟩) (by assumption) ?_
        case hyg5_11 => (intro w hSw; (try dsimp only at hSw); go_simp; (try with_reducible rfl))
        try simp only [Act.put, List.setIfInBounds_toArray, List.set_cons_zero, List.set_cons_succ]
        refine regTake (i := 12) (v := ?vg5_12) rfl (by kernel_rfl) (by kernel_rfl) (by kernel_rfl) (fun _ _ _ h => h) (Or.inl ⟨by rfl, ?hyg5_12⟩) (by assumption) ?_
        case hyg5_12 => (intro w hSw; (try dsimp only at hSw); go_simp; (try with_reducible rfl))
        try simp only [Act.put, List.setIfInBounds_toArray, List.set_cons_zero, List.set_cons_succ]
        refine regTake (i := 13) (v := ?vg5_13) rfl (by kernel_rfl) (by kernel_rfl) (by kernel_rfl) (fun _ _ _ h => h) (Or.inl ⟨by rfl, ?hyg5_13⟩) (by assumption) ?_
        case hyg5_13 => (intro w hSw; (try dsimp only at hSw); go_simp; (try with_reducible rfl))
        try simp only [Act.put, List.setIfInBounds_toArray, List.set_cons_zero, List.set_cons_succ]
        refine regTake (i := 14) (v := ?vg5_14) rfl (by kernel_rfl) (by kernel_rfl) (by kernel_rfl) (fun _ _ _ h => h) (Or.inl ⟨by rfl, ?hyg5_14⟩) (by assumption) ?_
        case hyg5_14 => (intro w hSw; (try dsimp only at hSw); go_simp; (try with_reducible rfl))
        try simp only [Act.put, List.setIfInBounds_toArray, List.set_cons_zero, List.set_cons_succ]
        refine regTake (i := 16) (v := ?vg5_16) rfl (by kernel_rfl) (by kernel_rfl) (by kernel_rfl) (fun _ _ _ h => h) (Or.inl ⟨by rfl, ?hyg5_16⟩) (by assumption) ?_
        case hyg5_16 => (intro w hSw; (try dsimp only at hSw); go_simp; (try with_reducible rfl))
        try simp only [Act.put, List.setIfInBounds_toArray, List.set_cons_zero, List.set_cons_succ]
        refine wpAnyH_ready (rs := [15]) (by kernel_rfl) (by simp) ?_
        refine regCons rfl (fun K hK => ?_)
        go_simp
        refine (HAA.out _ (below_trans HB3.out (hkg5_1))).mono ?_
        rintro e yg5_2 ⟨rfl, hyg5_2⟩
        have hkg5_2 := below_trans (hkg5_1) hyg5_2
        refine hK.out _ _ ?_ (fun hS3 => ?_)
        · (refine (fun hB => ⟨hB, cell_keep x0 hB, cell_keep x1 hB, cell_keep x2 hB, cell_keep x3 hB, cell_keep x4 hB, cell_keep x5 hB⟩ : Below (w3).heap.size (w3) _ → _) ?_; exact hkg5_2)
        clear hK K hS2
        try simp only [Act.put, List.setIfInBounds_toArray, List.set_cons_zero, List.set_cons_succ]
        refine wpAnyH_ready (rs := [17]) (by kernel_rfl) (by simp) ?_
        refine regCons rfl (fun K hK => ?_)
        go_simp
        refine (HV.out _ (below_trans HB3.out (hkg5_2))).mono ?_
        rintro e yg5_3 ⟨rfl, hyg5_3⟩
        have hkg5_3 := below_trans (hkg5_2) hyg5_3
        refine hK.out _ _ ?_ (fun hS4 => ?_)
        · (refine (fun hB => ⟨hB, cell_keep x0 hB, cell_keep x1 hB, cell_keep x2 hB, cell_keep x3 hB, cell_keep x4 hB, cell_keep x5 hB⟩ : Below (w3).heap.size (w3) _ → _) ?_; exact hkg5_3)
        clear hK K hS3
        try simp only [Act.put, List.setIfInBounds_toArray, List.set_cons_zero, List.set_cons_succ]
        refine regTake (i := 18) (v := ?vg5_18) rfl (by kernel_rfl) (by kernel_rfl) (by kernel_rfl) (fun _ _ _ h => h) (Or.inl ⟨by rfl, ?hyg5_18⟩) (by assumption) ?_
        case hyg5_18 => (intro w hSw; (try dsimp only at hSw); go_simp; (try with_reducible rfl))
        try simp only [Act.put, List.setIfInBounds_toArray, List.set_cons_zero, List.set_cons_succ]
        refine regTake (i := 19) (v := .bool false) rfl (by kernel_rfl) (by kernel_rfl) (by kernel_rfl) (fun _ _ _ h => h) (Or.inl ⟨by rfl, ?hyg5_19⟩) (by assumption) ?_
        case hyg5_19 => (intro w hSw; (try dsimp only at hSw); go_simp; (try with_reducible rfl))
        try simp only [Act.put, List.setIfInBounds_toArray, List.set_cons_zero, List.set_cons_succ]
        refine wpAnyH_done (by kernel_rfl) ?_ _
        have hlg5_ := below_trans HB3.out hkg5_3
        replace x0 := cell_keep x0 hkg5_3
        replace x1 := cell_keep x1 hkg5_3
        replace x2 := cell_keep x2 hkg5_3
        replace x3 := cell_keep x3 hkg5_3
        replace x4 := cell_keep x4 hkg5_3
        replace x5 := cell_keep x5 hkg5_3
        cases s
        · go_wp2_with fail
          refine (HBA.out _ hlg5_).mono ?_
          rintro e z6 ⟨rfl, hz6⟩
          have hq6 := below_trans hlg5_ hz6
          replace x0 := cell_keep x0 hz6
          replace x1 := cell_keep x1 hz6
          replace x2 := cell_keep x2 hz6
          replace x3 := cell_keep x3 hz6
          replace x4 := cell_keep x4 hz6
          replace x5 := cell_keep x5 hz6
          go_wp2_with fail
          go_ret
          exact ⟨rfl, below_trans HBL.out hq6⟩
        · have e6 : ee = true := by first | exact HTS.out rfl rfl | exact HTS.out trivial rfl | simpa using HTS.out
          subst e6
          go_wp2_with fail
          refine (HBA.out _ hlg5_).mono ?_
          rintro e z7 ⟨rfl, hz7⟩
          have hq7 := below_trans hlg5_ hz7
          replace x0 := cell_keep x0 hz7
          replace x1 := cell_keep x1 hz7
          replace x2 := cell_keep x2 hz7
          replace x3 := cell_keep x3 hz7
          replace x4 := cell_keep x4 hz7
          replace x5 := cell_keep x5 hz7
          go_wp2_with fail
          refine (HSM.out _ hq7).mono ?_
          rintro e z8 ⟨rfl, hz8⟩
          have hq8 := below_trans hq7 hz8
          replace x0 := cell_keep x0 hz8
          replace x1 := cell_keep x1 hz8
          replace x2 := cell_keep x2 hz8
          replace x3 := cell_keep x3 hz8
          replace x4 := cell_keep x4 hz8
          replace x5 := cell_keep x5 hz8
          go_wp2_with fail
          go_ret
          exact ⟨rfl, below_trans HBL.out hq8⟩
      · go_wp2_with fail
        refine wp_region_held_drew (S := (fun w' => Below (w3).heap.size (w3) w' ∧ w'.cell? ⟨w1.heap.size, 0, none⟩ = some (.int .i64 k1) ∧ w'.cell? ⟨w1.heap.size, 1, none⟩ = some (.slice a1 n1 c1) ∧ w'.cell? ⟨w1.heap.size + 1, 0, none⟩ = some (.int .i64 k2) ∧ w'.cell? ⟨w1.heap.size + 1, 1, none⟩ = some (.slice a2 n2 c2) ∧ w'.cell? ⟨w1.heap.size + 1 + 1, 0, none⟩ = some (.int .i64 k3) ∧ w'.cell? ⟨w1.heap.size + 1 + 1, 1, none⟩ = some (.slice a3 n3 c3))) (by kernel_rfl) ?_ (fun hS0 => ?_)
        · (refine (fun hB => ⟨hB, cell_keep x0 hB, cell_keep x1 hB, cell_keep x2 hB, cell_keep x3 hB, cell_keep x4 hB, cell_keep x5 hB⟩ : Below (w3).heap.size (w3) _ → _) ?_; exact below_drew _)
        refine regTake (i := 0) (v := ?vg9_0) rfl (by kernel_rfl) (by kernel_rfl) (by kernel_rfl) (fun _ _ _ h => h) (Or.inl ⟨by rfl, ?hyg9_0⟩) (by assumption) ?_
        case hyg9_0 => (intro w hSw; (try dsimp only at hSw); go_simp; (try with_reducible rfl))
        try simp only [Act.put, List.setIfInBounds_toArray, List.set_cons_zero, List.set_cons_succ]
        refine regTake (i := 1) (v := ?vg9_1) rfl (by kernel_rfl) (by kernel_rfl) (by kernel_rfl) (fun _ _ _ h => h) (Or.inl ⟨by rfl, ?hyg9_1⟩) (by assumption) ?_
        case hyg9_1 => (intro w hSw; (try dsimp only at hSw); go_simp; (try with_reducible rfl))
        try simp only [Act.put, List.setIfInBounds_toArray, List.set_cons_zero, List.set_cons_succ]
        refine regTake (i := 2) (v := ?vg9_2) rfl (by kernel_rfl) (by kernel_rfl) (by kernel_rfl) (fun _ _ _ h => h) (Or.inl ⟨by rfl, ?hyg9_2⟩) (by assumption) ?_
        case hyg9_2 => (intro w hSw; (try dsimp only at hSw); go_simp; (try with_reducible rfl))
        try simp only [Act.put, List.setIfInBounds_toArray, List.set_cons_zero, List.set_cons_succ]
        refine wpAnyH_ready (rs := [3]) (by kernel_rfl) (by simp) ?_
        refine regCons rfl (fun K hK => ?_)
        go_simp
        refine (HSP.out _ (below_trans HB3.out (below_drew (w3)))).mono ?_
        rintro e yg9_0 ⟨rfl, hyg9_0⟩
        have hkg9_0 := below_trans (below_drew (w3)) hyg9_0
        refine hK.out _ _ ?_ (fun hS1 => ?_)
        · (refine (fun hB => ⟨hB, cell_keep x0 hB, cell_keep x1 hB, cell_keep x2 hB, cell_keep x3 hB, cell_keep x4 hB, cell_keep x5 hB⟩ : Below (w3).heap.size (w3) _ → _) ?_; exact hkg9_0)
        clear hK K hS0
        try simp only [Act.put, List.setIfInBounds_toArray, List.set_cons_zero, List.set_cons_succ]
        refine regTake (i := 4) (v := ?vg9_4) rfl (by kernel_rfl) (by kernel_rfl) (by kernel_rfl) (fun _ _ _ h => h) (Or.inl ⟨by rfl, ?hyg9_4⟩) (by assumption) ?_
        case hyg9_4 => (intro w hSw; (try dsimp only at hSw); go_simp; (try with_reducible rfl))
        try simp only [Act.put, List.setIfInBounds_toArray, List.set_cons_zero, List.set_cons_succ]
        refine regTake (i := 5) (v := ?vg9_5) rfl (by kernel_rfl) (by kernel_rfl) (by kernel_rfl) (fun _ _ _ h => h) (Or.inl ⟨by rfl, ?hyg9_5⟩) (by assumption) ?_
        case hyg9_5 => (intro w hSw; (try dsimp only at hSw); go_simp; (try with_reducible rfl))
        try simp only [Act.put, List.setIfInBounds_toArray, List.set_cons_zero, List.set_cons_succ]
        refine regTake (i := 6) (v := ?vg9_6) rfl (by kernel_rfl) (by kernel_rfl) (by kernel_rfl) (fun _ _ _ h => h) (Or.inl ⟨by rfl, ?hyg9_6⟩) (by assumption) ?_
        case hyg9_6 => (intro w hSw; (try dsimp only at hSw); go_simp; (try with_reducible rfl))
        try simp only [Act.put, List.setIfInBounds_toArray, List.set_cons_zero, List.set_cons_succ]
        refine regTake (i := 7) (v := ?vg9_7) rfl (by kernel_rfl) (by kernel_rfl) (by kernel_rfl) (fun _ _ _ h => h) (Or.inl ⟨by rfl, ?hyg9_7⟩) (by assumption) ?_
        case hyg9_7 => (intro w hSw; (try dsimp only at hSw); go_simp; (try with_reducible rfl))
        try simp only [Act.put, List.setIfInBounds_toArray, List.set_cons_zero, List.set_cons_succ]
        refine regTake (i := 8) (v := ?vg9_8) rfl (by kernel_rfl) (by kernel_rfl) (by kernel_rfl) (fun _ _ _ h => h) (Or.inl ⟨by rfl, ?hyg9_8⟩) (by assumption) ?_
        case hyg9_8 => (intro w hSw; (try dsimp only at hSw); go_simp; (try with_reducible rfl))
        try simp only [Act.put, List.setIfInBounds_toArray, List.set_cons_zero, List.set_cons_succ]
        refine wpAnyH_ready (rs := [9]) (by kernel_rfl) (by simp) ?_
        refine regCons rfl (fun K hK => ?_)
        go_simp
        refine (HSQ.out _ (below_trans HB3.out (hkg9_0))).mono ?_
        rintro e yg9_1 ⟨rfl, hyg9_1⟩
        have hkg9_1 := below_trans (hkg9_0) hyg9_1
        refine hK.out _ _ ?_ (fun hS2 => ?_)
        · (refine (fun hB => ⟨hB, cell_keep x0 hB, cell_keep x1 hB, cell_keep x2 hB, cell_keep x3 hB, cell_keep x4 hB, cell_keep x5 hB⟩ : Below (w3).heap.size (w3) _ → _) ?_; exact hkg9_1)
        clear hK K hS1
        try simp only [Act.put, List.setIfInBounds_toArray, List.set_cons_zero, List.set_cons_succ]
        refine regTake (i := 10) (v := ?vg9_10) rfl (by kernel_rfl) (by kernel_rfl) (by kernel_rfl) (fun _ _ _ h => h) (Or.inl ⟨by rfl, ?hyg9_10⟩) (by assumption) ?_
        case hyg9_10 => (intro w hSw; (try dsimp only at hSw); go_simp; (try with_reducible rfl))
        try simp only [Act.put, List.setIfInBounds_toArray, List.set_cons_zero, List.set_cons_succ]
        refine regTake (i := 11) (v := .bool false) rfl (by kernel_rfl) (by kernel_rfl) (by kernel_rfl) (fun _ _ _ h => h) (Or.inl ⟨by rfl, ?hyg9_11⟩) (by assumption) ?_
        case hyg9_11 => (intro w hSw; (try dsimp only at hSw); go_simp; (try with_reducible rfl))
        try simp only [Act.put, List.setIfInBounds_toArray, List.set_cons_zero, List.set_cons_succ]
        refine regTake (i := 12) (v := ?vg9_12) rfl (by kernel_rfl) (by kernel_rfl) (by kernel_rfl) (fun _ _ _ h => h) (Or.inl ⟨by rfl, ?hyg9_12⟩) (by assumption) ?_
        case hyg9_12 => (intro w hSw; (try dsimp only at hSw); go_simp; (try with_reducible rfl))
        try simp only [Act.put, List.setIfInBounds_toArray, List.set_cons_zero, List.set_cons_succ]
        refine regTake (i := 13) (v := ?vg9_13) rfl (by kernel_rfl) (by kernel_rfl) (by kernel_rfl) (fun _ _ _ h => h) (Or.inl ⟨by rfl, ?hyg9_13⟩) (by assumption) ?_
        case hyg9_13 => (intro w hSw; (try dsimp only at hSw); go_simp; (try with_reducible rfl))
        try simp only [Act.put, List.setIfInBounds_toArray, List.set_cons_zero, List.set_cons_succ]
        refine regTake (i := 14) (v := ?vg9_14) rfl (by kernel_rfl) (by kernel_rfl) (by kernel_rfl) (fun _ _ _ h => h) (Or.inl ⟨by rfl, ?hyg9_14⟩) (by assumption) ?_
        case hyg9_14 => (intro w hSw; (try dsimp only at hSw); go_simp; (try with_reducible rfl))
        try simp only [Act.put, List.setIfInBounds_toArray, List.set_cons_zero, List.set_cons_succ]
        refine regTake (i := 16) (v := ?vg9_16) rfl (by kernel_rfl) (by kernel_rfl) (by kernel_rfl) (fun _ _ _ h => h) (Or.inl ⟨by rfl, ?hyg9_16⟩) (by assumption) ?_
        case hyg9_16 => (intro w hSw; (try dsimp only at hSw); go_simp; (try with_reducible rfl))
        try simp only [Act.put, List.setIfInBounds_toArray, List.set_cons_zero, List.set_cons_succ]
        refine wpAnyH_ready (rs := [15]) (by kernel_rfl) (by simp) ?_
        refine regCons rfl (fun K hK => ?_)
        go_simp
        refine (HAA.out _ (below_trans HB3.out (hkg9_1))).mono ?_
        rintro e yg9_2 ⟨rfl, hyg9_2⟩
        have hkg9_2 := below_trans (hkg9_1) hyg9_2
        refine hK.out _ _ ?_ (fun hS3 => ?_)
        · (refine (fun hB => ⟨hB, cell_keep x0 hB, cell_keep x1 hB, cell_keep x2 hB, cell_keep x3 hB, cell_keep x4 hB, cell_keep x5 hB⟩ : Below (w3).heap.size (w3) _ → _) ?_; exact hkg9_2)
        clear hK K hS2
        try simp only [Act.put, List.setIfInBounds_toArray, List.set_cons_zero, List.set_cons_succ]
        refine wpAnyH_ready (rs := [17]) (by kernel_rfl) (by simp) ?_
        refine regCons rfl (fun K hK => ?_)
        go_simp
        refine (HV.out _ (below_trans HB3.out (hkg9_2))).mono ?_
        rintro e yg9_3 ⟨rfl, hyg9_3⟩
        have hkg9_3 := below_trans (hkg9_2) hyg9_3
        refine hK.out _ _ ?_ (fun hS4 => ?_)
        · (refine (fun hB => ⟨hB, cell_keep x0 hB, cell_keep x1 hB, cell_keep x2 hB, cell_keep x3 hB, cell_keep x4 hB, cell_keep x5 hB⟩ : Below (w3).heap.size (w3) _ → _) ?_; exact hkg9_3)
        clear hK K hS3
        try simp only [Act.put, List.setIfInBounds_toArray, List.set_cons_zero, List.set_cons_succ]
        refine regTake (i := 18) (v := ?vg9_18) rfl (by kernel_rfl) (by kernel_rfl) (by kernel_rfl) (fun _ _ _ h => h) (Or.inl ⟨by rfl, ?hyg9_18⟩) (by assumption) ?_
        case hyg9_18 => (intro w hSw; (try dsimp only at hSw); go_simp; (try with_reducible rfl))
        try simp only [Act.put, List.setIfInBounds_toArray, List.set_cons_zero, List.set_cons_succ]
        refine regTake (i := 19) (v := .bool false) rfl (by kernel_rfl) (by kernel_rfl) (by kernel_rfl) (fun _ _ _ h => h) (Or.inl ⟨by rfl, ?hyg9_19⟩) (by assumption) ?_
        case hyg9_19 => (intro w hSw; (try dsimp only at hSw); go_simp; (try with_reducible rfl))
        try simp only [Act.put, List.setIfInBounds_toArray, List.set_cons_zero, List.set_cons_succ]
        refine wpAnyH_done (by kernel_rfl) ?_ _
        have hlg9_ := below_trans HB3.out hkg9_3
        replace x0 := cell_keep x0 hkg9_3
        replace x1 := cell_keep x1 hkg9_3
        replace x2 := cell_keep x2 hkg9_3
        replace x3 := cell_keep x3 hkg9_3
        replace x4 := cell_keep x4 hkg9_3
        replace x5 := cell_keep x5 hkg9_3
        cases s
        · go_wp2_with fail
          refine (HBA.out _ hlg9_).mono ?_
          rintro e z10 ⟨rfl, hz10⟩
          have hq10 := below_trans hlg9_ hz10
          replace x0 := cell_keep x0 hz10
          replace x1 := cell_keep x1 hz10
          replace x2 := cell_keep x2 hz10
          replace x3 := cell_keep x3 hz10
          replace x4 := cell_keep x4 hz10
          replace x5 := cell_keep x5 hz10
          go_wp2_with fail
          go_ret
          exact ⟨rfl, below_trans HBL.out hq10⟩
        · have e6 : ee = true := by first | exact HTS.out rfl rfl | exact HTS.out trivial rfl | simpa using HTS.out
          subst e6
          go_wp2_with fail
          refine (HBA.out _ hlg9_).mono ?_
          rintro e z11 ⟨rfl, hz11⟩
          have hq11 := below_trans hlg9_ hz11
          replace x0 := cell_keep x0 hz11
          replace x1 := cell_keep x1 hz11
          replace x2 := cell_keep x2 hz11
          replace x3 := cell_keep x3 hz11
          replace x4 := cell_keep x4 hz11
          replace x5 := cell_keep x5 hz11
          go_wp2_with fail
          refine (HSM.out _ hq11).mono ?_
          rintro e z12 ⟨rfl, hz12⟩
          have hq12 := below_trans hq11 hz12
          replace x0 := cell_keep x0 hz12
          replace x1 := cell_keep x1 hz12
          replace x2 := cell_keep x2 hz12
          replace x3 := cell_keep x3 hz12
          replace x4 := cell_keep x4 hz12
          replace x5 := cell_keep x5 hz12
          go_wp2_with fail
          go_ret
          exact ⟨rfl, below_trans HBL.out hq12⟩
    · have e5 := HTR.out rfl rfl
      subst e5
      cases vv
      · go_wp2_with fail
        refine wp_region_held_drew (S := (fun w' => Below (w3).heap.size (w3) w' ∧ w'.cell? ⟨w1.heap.size, 0, none⟩ = some (.int .i64 k1) ∧ w'.cell? ⟨w1.heap.size, 1, none⟩ = some (.slice a1 n1 c1) ∧ w'.cell? ⟨w1.heap.size + 1, 0, none⟩ = some (.int .i64 k2) ∧ w'.cell? ⟨w1.heap.size + 1, 1, none⟩ = some (.slice a2 n2 c2) ∧ w'.cell? ⟨w1.heap.size + 1 + 1, 0, none⟩ = some (.int .i64 k3) ∧ w'.cell? ⟨w1.heap.size + 1 + 1, 1, none⟩ = some (.slice a3 n3 c3))) (by kernel_rfl) ?_ (fun hS0 => ?_)
        · (refine (fun hB => ⟨hB, cell_keep x0 hB, cell_keep x1 hB, cell_keep x2 hB, cell_keep x3 hB, cell_keep x4 hB, cell_keep x5 hB⟩ : Below (w3).heap.size (w3) _ → _) ?_; exact below_drew _)
        refine regTake (i := 0) (v := ?vg13_0) rfl (by kernel_rfl) (by kernel_rfl) (by kernel_rfl) (fun _ _ _ h => h) (Or.inl ⟨by rfl, ?hyg13_0⟩) (by assumption) ?_
        case hyg13_0 => (intro w hSw; (try dsimp only at hSw); go_simp; (try with_reducible rfl))
        try simp only [Act.put, List.setIfInBounds_toArray, List.set_cons_zero, List.set_cons_succ]
        refine regTake (i := 1) (v := ?vg13_1) rfl (by kernel_rfl) (by kernel_rfl) (by kernel_rfl) (fun _ _ _ h => h) (Or.inl ⟨by rfl, ?hyg13_1⟩) (by assumption) ?_
        case hyg13_1 => (intro w hSw; (try dsimp only at hSw); go_simp; (try with_reducible rfl))
        try simp only [Act.put, List.setIfInBounds_toArray, List.set_cons_zero, List.set_cons_succ]
        refine regTake (i := 2) (v := ?vg13_2) rfl (by kernel_rfl) (by kernel_rfl) (by kernel_rfl) (fun _ _ _ h => h) (Or.inl ⟨by rfl, ?hyg13_2⟩) (by assumption) ?_
        case hyg13_2 => (intro w hSw; (try dsimp only at hSw); go_simp; (try with_reducible rfl))
        try simp only [Act.put, List.setIfInBounds_toArray, List.set_cons_zero, List.set_cons_succ]
        refine wpAnyH_ready (rs := [3]) (by kernel_rfl) (by simp) ?_
        refine regCons rfl (fun K hK => ?_)
        go_simp
        refine (HSP.out _ (below_trans HB3.out (below_drew (w3)))).mono ?_
        rintro e yg13_0 ⟨rfl, hyg13_0⟩
        have hkg13_0 := below_trans (below_drew (w3)) hyg13_0
        refine hK.out _ _ ?_ (fun hS1 => ?_)
        · (refine (fun hB => ⟨hB, cell_keep x0 hB, cell_keep x1 hB, cell_keep x2 hB, cell_keep x3 hB, cell_keep x4 hB, cell_keep x5 hB⟩ : Below (w3).heap.size (w3) _ → _) ?_; exact hkg13_0)
        clear hK K hS0
        try simp only [Act.put, List.setIfInBounds_toArray, List.set_cons_zero, List.set_cons_succ]
        refine regTake (i := 4) (v := ?vg13_4) rfl (by kernel_rfl) (by kernel_rfl) (by kernel_rfl) (fun _ _ _ h => h) (Or.inl ⟨by rfl, ?hyg13_4⟩) (by assumption) ?_
        case hyg13_4 => (intro w hSw; (try dsimp only at hSw); go_simp; (try with_reducible rfl))
        try simp only [Act.put, List.setIfInBounds_toArray, List.set_cons_zero, List.set_cons_succ]
        refine regTake (i := 5) (v := ?vg13_5) rfl (by kernel_rfl) (by kernel_rfl) (by kernel_rfl) (fun _ _ _ h => h) (Or.inl ⟨by rfl, ?hyg13_5⟩) (by assumption) ?_
        case hyg13_5 => (intro w hSw; (try dsimp only at hSw); go_simp; (try with_reducible rfl))
        try simp only [Act.put, List.setIfInBounds_toArray, List.set_cons_zero, List.set_cons_succ]
        refine regTake (i := 6) (v := ?vg13_6) rfl (by kernel_rfl) (by kernel_rfl) (by kernel_rfl) (fun _ _ _ h => h) (Or.inl ⟨by rfl, ?hyg13_6⟩) (by assumption) ?_
        case hyg13_6 => (intro w hSw; (try dsimp only at hSw); go_simp; (try with_reducible rfl))
        try simp only [Act.put, List.setIfInBounds_toArray, List.set_cons_zero, List.set_cons_succ]
        refine regTake (i := 7) (v := ?vg13_7) rfl (by kernel_rfl) (by kernel_rfl) (by kernel_rfl) (fun _ _ _ h => h) (Or.inl ⟨by rfl, ?hyg13_7⟩) (by assumption) ?_
        case hyg13_7 => (intro w hSw; (try dsimp only at hSw); go_simp; (try with_reducible rfl))
        try simp only [Act.put, List.setIfInBounds_toArray, List.set_cons_zero, List.set_cons_succ]
        refine regTake (i := 8) (v := ?vg13_8) rfl (by kernel_rfl) (by kernel_rfl) (by kernel_rfl) (fun _ _ _ h => h) (Or.inl ⟨by rfl, ?hyg13_8⟩) (by assumption) ?_
        case hyg13_8 => (intro w hSw; (try dsimp only at hSw); go_simp; (try with_reducible rfl))
        try simp only [Act.put, List.setIfInBounds_toArray, List.set_cons_zero, List.set_cons_succ]
        refine wpAnyH_ready (rs := [9]) (by kernel_rfl) (by simp) ?_
        refine regCons rfl (fun K hK => ?_)
        go_simp
        refine (HSQ.out _ (below_trans HB3.out (hkg13_0))).mono ?_
        rintro e yg13_1 ⟨rfl, hyg13_1⟩
        have hkg13_1 := below_trans (hkg13_0) hyg13_1
        refine hK.out _ _ ?_ (fun hS2 => ?_)
        · (refine (fun hB => ⟨hB, cell_keep x0 hB, cell_keep x1 hB, cell_keep x2 hB, cell_keep x3 hB, cell_keep x4 hB, cell_keep x5 hB⟩ : Below (w3).heap.size (w3) _ → _) ?_; exact hkg13_1)
        clear hK K hS1
        try simp only [Act.put, List.setIfInBounds_toArray, List.set_cons_zero, List.set_cons_succ]
        refine regTake (i := 10) (v := ?vg13_10) rfl (by kernel_rfl) (by kernel_rfl) (by kernel_rfl) (fun _ _ _ h => h) (Or.inl ⟨by rfl, ?hyg13_10⟩) (by assumption) ?_
        case hyg13_10 => (intro w hSw; (try dsimp only at hSw); go_simp; (try with_reducible rfl))
        try simp only [Act.put, List.setIfInBounds_toArray, List.set_cons_zero, List.set_cons_succ]
        refine regTake (i := 11) (v := .bool false) rfl (by kernel_rfl) (by kernel_rfl) (by kernel_rfl) (fun _ _ _ h => h) (Or.inl ⟨by rfl, ?hyg13_11⟩) (by assumption) ?_
        case hyg13_11 => (intro w hSw; (try dsimp only at hSw); go_simp; (try with_reducible rfl))
        try simp only [Act.put, List.setIfInBounds_toArray, List.set_cons_zero, List.set_cons_succ]
        refine regTake (i := 12) (v := ?vg13_12) rfl (by kernel_rfl) (by kernel_rfl) (by kernel_rfl) (fun _ _ _ h => h) (Or.inl ⟨by rfl, ?hyg13_12⟩) (by assumption) ?_
        case hyg13_12 => (intro w hSw; (try dsimp only at hSw); go_simp; (try with_reducible rfl))
        try simp only [Act.put, List.setIfInBounds_toArray, List.set_cons_zero, List.set_cons_succ]
        refine regTake (i := 13) (v := ?vg13_13) rfl (by kernel_rfl) (by kernel_rfl) (by kernel_rfl) (fun _ _ _ h => h) (Or.inl ⟨by rfl, ?hyg13_13⟩) (by assumption) ?_
        case hyg13_13 => (intro w hSw; (try dsimp only at hSw); go_simp; (try with_reducible rfl))
        try simp only [Act.put, List.setIfInBounds_toArray, List.set_cons_zero, List.set_cons_succ]
        refine regTake (i := 14) (v := ?vg13_14) rfl (by kernel_rfl) (by kernel_rfl) (by kernel_rfl) (fun _ _ _ h => h) (Or.inl ⟨by rfl, ?hyg13_14⟩) (by assumption) ?_
        case hyg13_14 => (intro w hSw; (try dsimp only at hSw); go_simp; (try with_reducible rfl))
        try simp only [Act.put, List.setIfInBounds_toArray, List.set_cons_zero, List.set_cons_succ]
        refine regTake (i := 16) (v := ?vg13_16) rfl (by kernel_rfl) (by kernel_rfl) (by kernel_rfl) (fun _ _ _ h => h) (Or.inl ⟨by rfl, ?hyg13_16⟩) (by assumption) ?_
        case hyg13_16 => (intro w hSw; (try dsimp only at hSw); go_simp; (try with_reducible rfl))
        try simp only [Act.put, List.setIfInBounds_toArray, List.set_cons_zero, List.set_cons_succ]
        refine wpAnyH_ready (rs := [15]) (by kernel_rfl) (by simp) ?_
        refine regCons rfl (fun K hK => ?_)
        go_simp
        refine (HAA.out _ (below_trans HB3.out (hkg13_1))).mono ?_
        rintro e yg13_2 ⟨rfl, hyg13_2⟩
        have hkg13_2 := below_trans (hkg13_1) hyg13_2
        refine hK.out _ _ ?_ (fun hS3 => ?_)
        · (refine (fun hB => ⟨hB, cell_keep x0 hB, cell_keep x1 hB, cell_keep x2 hB, cell_keep x3 hB, cell_keep x4 hB, cell_keep x5 hB⟩ : Below (w3).heap.size (w3) _ → _) ?_; exact hkg13_2)
        clear hK K hS2
        try simp only [Act.put, List.setIfInBounds_toArray, List.set_cons_zero, List.set_cons_succ]
        refine wpAnyH_ready (rs := [17]) (by kernel_rfl) (by simp) ?_
        refine regCons rfl (fun K hK => ?_)
        go_simp
        refine (HV.out _ (below_trans HB3.out (hkg13_2))).mono ?_
        rintro e yg13_3 ⟨rfl, hyg13_3⟩
        have hkg13_3 := below_trans (hkg13_2) hyg13_3
        refine hK.out _ _ ?_ (fun hS4 => ?_)
        · (refine (fun hB => ⟨hB, cell_keep x0 hB, cell_keep x1 hB, cell_keep x2 hB, cell_keep x3 hB, cell_keep x4 hB, cell_keep x5 hB⟩ : Below (w3).heap.size (w3) _ → _) ?_; exact hkg13_3)
        clear hK K hS3
        try simp only [Act.put, List.setIfInBounds_toArray, List.set_cons_zero, List.set_cons_succ]
        refine regTake (i := 18) (v := ?vg13_18) rfl (by kernel_rfl) (by kernel_rfl) (by kernel_rfl) (fun _ _ _ h => h) (Or.inl ⟨by rfl, ?hyg13_18⟩) (by assumption) ?_
        case hyg13_18 => (intro w hSw; (try dsimp only at hSw); go_simp; (try with_reducible rfl))
        try simp only [Act.put, List.setIfInBounds_toArray, List.set_cons_zero, List.set_cons_succ]
        refine regTake (i := 19) (v := .bool false) rfl (by kernel_rfl) (by kernel_rfl) (by kernel_rfl) (fun _ _ _ h => h) (Or.inl ⟨by rfl, ?hyg13_19⟩) (by assumption) ?_
        case hyg13_19 => (intro w hSw; (try dsimp only at hSw); go_simp; (try with_reducible rfl))
        try simp only [Act.put, List.setIfInBounds_toArray, List.set_cons_zero, List.set_cons_succ]
        refine wpAnyH_done (by kernel_rfl) ?_ _
        have hlg13_ := below_trans HB3.out hkg13_3
        replace x0 := cell_keep x0 hkg13_3
        replace x1 := cell_keep x1 hkg13_3
        replace x2 := cell_keep x2 hkg13_3
        replace x3 := cell_keep x3 hkg13_3
        replace x4 := cell_keep x4 hkg13_3
        replace x5 := cell_keep x5 hkg13_3
        cases s
        · go_wp2_with fail
          refine (HAC.out _ hlg13_).mono ?_
          rintro e z14 ⟨rfl, hz14⟩
          have hq14 := below_trans hlg13_ hz14
          replace x0 := cell_keep x0 hz14
          replace x1 := cell_keep x1 hz14
          replace x2 := cell_keep x2 hz14
          replace x3 := cell_keep x3 hz14
          replace x4 := cell_keep x4 hz14
          replace x5 := cell_keep x5 hz14
          go_wp2_with fail
          refine (HBA.out _ hq14).mono ?_
          rintro e z15 ⟨rfl, hz15⟩
          have hq15 := below_trans hq14 hz15
          replace x0 := cell_keep x0 hz15
          replace x1 := cell_keep x1 hz15
          replace x2 := cell_keep x2 hz15
          replace x3 := cell_keep x3 hz15
          replace x4 := cell_keep x4 hz15
          replace x5 := cell_keep x5 hz15
          go_wp2_with fail
          go_ret
          exact ⟨rfl, below_trans HBL.out hq15⟩
        · have e6 : ee = true := by first | exact HTS.out rfl rfl | exact HTS.out trivial rfl | simpa using HTS.out
          subst e6
          go_wp2_with fail
          refine (HAC.out _ hlg13_).mono ?_
          rintro e z16 ⟨rfl, hz16⟩
          have hq16 := below_trans hlg13_ hz16
          replace x0 := cell_keep x0 hz16
          replace x1 := cell_keep x1 hz16
          replace x2 := cell_keep x2 hz16
          replace x3 := cell_keep x3 hz16
          replace x4 := cell_keep x4 hz16
          replace x5 := cell_keep x5 hz16
          go_wp2_with fail
          refine (HBA.out _ hq16).mono ?_
          rintro e z17 ⟨rfl, hz17⟩
          have hq17 := below_trans hq16 hz17
          replace x0 := cell_keep x0 hz17
          replace x1 := cell_keep x1 hz17
          replace x2 := cell_keep x2 hz17
          replace x3 := cell_keep x3 hz17
          replace x4 := cell_keep x4 hz17
          replace x5 := cell_keep x5 hz17
          go_wp2_with fail
          refine (HSM.out _ hq17).mono ?_
          rintro e z18 ⟨rfl, hz18⟩
          have hq18 := below_trans hq17 hz18
          replace x0 := cell_keep x0 hz18
          replace x1 := cell_keep x1 hz18
          replace x2 := cell_keep x2 hz18
          replace x3 := cell_keep x3 hz18
          replace x4 := cell_keep x4 hz18
          replace x5 := cell_keep x5 hz18
          go_wp2_with fail
          go_ret
          exact ⟨rfl, below_trans HBL.out hq18⟩
      · go_wp2_with fail
        refine wp_region_held_drew (S := (fun w' => Below (w3).heap.size (w3) w' ∧ w'.cell? ⟨w1.heap.size, 0, none⟩ = some (.int .i64 k1) ∧ w'.cell? ⟨w1.heap.size, 1, none⟩ = some (.slice a1 n1 c1) ∧ w'.cell? ⟨w1.heap.size + 1, 0, none⟩ = some (.int .i64 k2) ∧ w'.cell? ⟨w1.heap.size + 1, 1, none⟩ = some (.slice a2 n2 c2) ∧ w'.cell? ⟨w1.heap.size + 1 + 1, 0, none⟩ = some (.int .i64 k3) ∧ w'.cell? ⟨w1.heap.size + 1 + 1, 1, none⟩ = some (.slice a3 n3 c3))) (by kernel_rfl) ?_ (fun hS0 => ?_)
        · (refine (fun hB => ⟨hB, cell_keep x0 hB, cell_keep x1 hB, cell_keep x2 hB, cell_keep x3 hB, cell_keep x4 hB, cell_keep x5 hB⟩ : Below (w3).heap.size (w3) _ → _) ?_; exact below_drew _)
        refine regTake (i := 0) (v := ?vg19_0) rfl (by kernel_rfl) (by kernel_rfl) (by kernel_rfl) (fun _ _ _ h => h) (Or.inl ⟨by rfl, ?hyg19_0⟩) (by assumption) ?_
        case hyg19_0 => (intro w hSw; (try dsimp only at hSw); go_simp; (try with_reducible rfl))
        try simp only [Act.put, List.setIfInBounds_toArray, List.set_cons_zero, List.set_cons_succ]
        refine regTake (i := 1) (v := ?vg19_1) rfl (by kernel_rfl) (by kernel_rfl) (by kernel_rfl) (fun _ _ _ h => h) (Or.inl ⟨by rfl, ?hyg19_1⟩) (by assumption) ?_
        case hyg19_1 => (intro w hSw; (try dsimp only at hSw); go_simp; (try with_reducible rfl))
        try simp only [Act.put, List.setIfInBounds_toArray, List.set_cons_zero, List.set_cons_succ]
        refine regTake (i := 2) (v := ?vg19_2) rfl (by kernel_rfl) (by kernel_rfl) (by kernel_rfl) (fun _ _ _ h => h) (Or.inl ⟨by rfl, ?hyg19_2⟩) (by assumption) ?_
        case hyg19_2 => (intro w hSw; (try dsimp only at hSw); go_simp; (try with_reducible rfl))
        try simp only [Act.put, List.setIfInBounds_toArray, List.set_cons_zero, List.set_cons_succ]
        refine wpAnyH_ready (rs := [3]) (by kernel_rfl) (by simp) ?_
        refine regCons rfl (fun K hK => ?_)
        go_simp
        refine (HSP.out _ (below_trans HB3.out (below_drew (w3)))).mono ?_
        rintro e yg19_0 ⟨rfl, hyg19_0⟩
        have hkg19_0 := below_trans (below_drew (w3)) hyg19_0
        refine hK.out _ _ ?_ (fun hS1 => ?_)
        · (refine (fun hB => ⟨hB, cell_keep x0 hB, cell_keep x1 hB, cell_keep x2 hB, cell_keep x3 hB, cell_keep x4 hB, cell_keep x5 hB⟩ : Below (w3).heap.size (w3) _ → _) ?_; exact hkg19_0)
        clear hK K hS0
        try simp only [Act.put, List.setIfInBounds_toArray, List.set_cons_zero, List.set_cons_succ]
        refine regTake (i := 4) (v := ?vg19_4) rfl (by kernel_rfl) (by kernel_rfl) (by kernel_rfl) (fun _ _ _ h => h) (Or.inl ⟨by rfl, ?hyg19_4⟩) (by assumption) ?_
        case hyg19_4 => (intro w hSw; (try dsimp only at hSw); go_simp; (try with_reducible rfl))
        try simp only [Act.put, List.setIfInBounds_toArray, List.set_cons_zero, List.set_cons_succ]
        refine regTake (i := 5) (v := ?vg19_5) rfl (by kernel_rfl) (by kernel_rfl) (by kernel_rfl) (fun _ _ _ h => h) (Or.inl ⟨by rfl, ?hyg19_5⟩) (by assumption) ?_
        case hyg19_5 => (intro w hSw; (try dsimp only at hSw); go_simp; (try with_reducible rfl))
        try simp only [Act.put, List.setIfInBounds_toArray, List.set_cons_zero, List.set_cons_succ]
        refine regTake (i := 6) (v := ?vg19_6) rfl (by kernel_rfl) (by kernel_rfl) (by kernel_rfl) (fun _ _ _ h => h) (Or.inl ⟨by rfl, ?hyg19_6⟩) (by assumption) ?_
        case hyg19_6 => (intro w hSw; (try dsimp only at hSw); go_simp; (try with_reducible rfl))
        try simp only [Act.put, List.setIfInBounds_toArray, List.set_cons_zero, List.set_cons_succ]
        refine regTake (i := 7) (v := ?vg19_7) rfl (by kernel_rfl) (by kernel_rfl) (by kernel_rfl) (fun _ _ _ h => h) (Or.inl ⟨by rfl, ?hyg19_7⟩) (by assumption) ?_
        case hyg19_7 => (intro w hSw; (try dsimp only at hSw); go_simp; (try with_reducible rfl))
        try simp only [Act.put, List.setIfInBounds_toArray, List.set_cons_zero, List.set_cons_succ]
        refine regTake (i := 8) (v := ?vg19_8) rfl (by kernel_rfl) (by kernel_rfl) (by kernel_rfl) (fun _ _ _ h => h) (Or.inl ⟨by rfl, ?hyg19_8⟩) (by assumption) ?_
        case hyg19_8 => (intro w hSw; (try dsimp only at hSw); go_simp; (try with_reducible rfl))
        try simp only [Act.put, List.setIfInBounds_toArray, List.set_cons_zero, List.set_cons_succ]
        refine wpAnyH_ready (rs := [9]) (by kernel_rfl) (by simp) ?_
        refine regCons rfl (fun K hK => ?_)
        go_simp
        refine (HSQ.out _ (below_trans HB3.out (hkg19_0))).mono ?_
        rintro e yg19_1 ⟨rfl, hyg19_1⟩
        have hkg19_1 := below_trans (hkg19_0) hyg19_1
        refine hK.out _ _ ?_ (fun hS2 => ?_)
        · (refine (fun hB => ⟨hB, cell_keep x0 hB, cell_keep x1 hB, cell_keep x2 hB, cell_keep x3 hB, cell_keep x4 hB, cell_keep x5 hB⟩ : Below (w3).heap.size (w3) _ → _) ?_; exact hkg19_1)
        clear hK K hS1
        try simp only [Act.put, List.setIfInBounds_toArray, List.set_cons_zero, List.set_cons_succ]
        refine regTake (i := 10) (v := ?vg19_10) rfl (by kernel_rfl) (by kernel_rfl) (by kernel_rfl) (fun _ _ _ h => h) (Or.inl ⟨by rfl, ?hyg19_10⟩) (by assumption) ?_
        case hyg19_10 => (intro w hSw; (try dsimp only at hSw); go_simp; (try with_reducible rfl))
        try simp only [Act.put, List.setIfInBounds_toArray, List.set_cons_zero, List.set_cons_succ]
        refine regTake (i := 11) (v := .bool false) rfl (by kernel_rfl) (by kernel_rfl) (by kernel_rfl) (fun _ _ _ h => h) (Or.inl ⟨by rfl, ?hyg19_11⟩) (by assumption) ?_
        case hyg19_11 => (intro w hSw; (try dsimp only at hSw); go_simp; (try with_reducible rfl))
        try simp only [Act.put, List.setIfInBounds_toArray, List.set_cons_zero, List.set_cons_succ]
        refine regTake (i := 12) (v := ?vg19_12) rfl (by kernel_rfl) (by kernel_rfl) (by kernel_rfl) (fun _ _ _ h => h) (Or.inl ⟨by rfl, ?hyg19_12⟩) (by assumption) ?_
        case hyg19_12 => (intro w hSw; (try dsimp only at hSw); go_simp; (try with_reducible rfl))
        try simp only [Act.put, List.setIfInBounds_toArray, List.set_cons_zero, List.set_cons_succ]
        refine regTake (i := 13) (v := ?vg19_13) rfl (by kernel_rfl) (by kernel_rfl) (by kernel_rfl) (fun _ _ _ h => h) (Or.inl ⟨by rfl, ?hyg19_13⟩) (by assumption) ?_
        case hyg19_13 => (intro w hSw; (try dsimp only at hSw); go_simp; (try with_reducible rfl))
        try simp only [Act.put, List.setIfInBounds_toArray, List.set_cons_zero, List.set_cons_succ]
        refine regTake (i := 14) (v := ?vg19_14) rfl (by kernel_rfl) (by kernel_rfl) (by kernel_rfl) (fun _ _ _ h => h) (Or.inl ⟨by rfl, ?hyg19_14⟩) (by assumption) ?_
        case hyg19_14 => (intro w hSw; (try dsimp only at hSw); go_simp; (try with_reducible rfl))
        try simp only [Act.put, List.setIfInBounds_toArray, List.set_cons_zero, List.set_cons_succ]
        refine regTake (i := 16) (v := ?vg19_16) rfl (by kernel_rfl) (by kernel_rfl) (by kernel_rfl) (fun _ _ _ h => h) (Or.inl ⟨by rfl, ?hyg19_16⟩) (by assumption) ?_
        case hyg19_16 => (intro w hSw; (try dsimp only at hSw); go_simp; (try with_reducible rfl))
        try simp only [Act.put, List.setIfInBounds_toArray, List.set_cons_zero, List.set_cons_succ]
        refine wpAnyH_ready (rs := [15]) (by kernel_rfl) (by simp) ?_
        refine regCons rfl (fun K hK => ?_)
        go_simp
        refine (HAA.out _ (below_trans HB3.out (hkg19_1))).mono ?_
        rintro e yg19_2 ⟨rfl, hyg19_2⟩
        have hkg19_2 := below_trans (hkg19_1) hyg19_2
        refine hK.out _ _ ?_ (fun hS3 => ?_)
        · (refine (fun hB => ⟨hB, cell_keep x0 hB, cell_keep x1 hB, cell_keep x2 hB, cell_keep x3 hB, cell_keep x4 hB, cell_keep x5 hB⟩ : Below (w3).heap.size (w3) _ → _) ?_; exact hkg19_2)
        clear hK K hS2
        try simp only [Act.put, List.setIfInBounds_toArray, List.set_cons_zero, List.set_cons_succ]
        refine wpAnyH_ready (rs := [17]) (by kernel_rfl) (by simp) ?_
        refine regCons rfl (fun K hK => ?_)
        go_simp
        refine (HV.out _ (below_trans HB3.out (hkg19_2))).mono ?_
        rintro e yg19_3 ⟨rfl, hyg19_3⟩
        have hkg19_3 := below_trans (hkg19_2) hyg19_3
        refine hK.out _ _ ?_ (fun hS4 => ?_)
        · (refine (fun hB => ⟨hB, cell_keep x0 hB, cell_keep x1 hB, cell_keep x2 hB, cell_keep x3 hB, cell_keep x4 hB, cell_keep x5 hB⟩ : Below (w3).heap.size (w3) _ → _) ?_; exact hkg19_3)
        clear hK K hS3
        try simp only [Act.put, List.setIfInBounds_toArray, List.set_cons_zero, List.set_cons_succ]
        refine regTake (i := 18) (v := ?vg19_18) rfl (by kernel_rfl) (by kernel_rfl) (by kernel_rfl) (fun _ _ _ h => h) (Or.inl ⟨by rfl, ?hyg19_18⟩) (by assumption) ?_
        case hyg19_18 => (intro w hSw; (try dsimp only at hSw); go_simp; (try with_reducible rfl))
        try simp only [Act.put, List.setIfInBounds_toArray, List.set_cons_zero, List.set_cons_succ]
        refine regTake (i := 19) (v := .bool false) rfl (by kernel_rfl) (by kernel_rfl) (by kernel_rfl) (fun _ _ _ h => h) (Or.inl ⟨by rfl, ?hyg19_19⟩) (by assumption) ?_
        case hyg19_19 => (intro w hSw; (try dsimp only at hSw); go_simp; (try with_reducible rfl))
        try simp only [Act.put, List.setIfInBounds_toArray, List.set_cons_zero, List.set_cons_succ]
        refine wpAnyH_done (by kernel_rfl) ?_ _
        have hlg19_ := below_trans HB3.out hkg19_3
        replace x0 := cell_keep x0 hkg19_3
        replace x1 := cell_keep x1 hkg19_3
        replace x2 := cell_keep x2 hkg19_3
        replace x3 := cell_keep x3 hkg19_3
        replace x4 := cell_keep x4 hkg19_3
        replace x5 := cell_keep x5 hkg19_3
        cases s
        · go_wp2_with fail
          refine (HAC.out _ hlg19_).mono ?_
          rintro e z20 ⟨rfl, hz20⟩
          have hq20 := below_trans hlg19_ hz20
          replace x0 := cell_keep x0 hz20
          replace x1 := cell_keep x1 hz20
          replace x2 := cell_keep x2 hz20
          replace x3 := cell_keep x3 hz20
          replace x4 := cell_keep x4 hz20
          replace x5 := cell_keep x5 hz20
          go_wp2_with fail
          refine (HBA.out _ hq20).mono ?_
          rintro e z21 ⟨rfl, hz21⟩
          have hq21 := below_trans hq20 hz21
          replace x0 := cell_keep x0 hz21
          replace x1 := cell_keep x1 hz21
          replace x2 := cell_keep x2 hz21
          replace x3 := cell_keep x3 hz21
          replace x4 := cell_keep x4 hz21
          replace x5 := cell_keep x5 hz21
          go_wp2_with fail
          go_ret
          exact ⟨rfl, below_trans HBL.out hq21⟩
        · have e6 : ee = true := by first | exact HTS.out rfl rfl | exact HTS.out trivial rfl | simpa using HTS.out
          subst e6
          go_wp2_with fail
          refine (HAC.out _ hlg19_).mono ?_
          rintro e z22 ⟨rfl, hz22⟩
          have hq22 := below_trans hlg19_ hz22
          replace x0 := cell_keep x0 hz22
          replace x1 := cell_keep x1 hz22
          replace x2 := cell_keep x2 hz22
          replace x3 := cell_keep x3 hz22
          replace x4 := cell_keep x4 hz22
          replace x5 := cell_keep x5 hz22
          go_wp2_with fail
          refine (HBA.out _ hq22).mono ?_
          rintro e z23 ⟨rfl, hz23⟩
          have hq23 := below_trans hq22 hz23
          replace x0 := cell_keep x0 hz23
          replace x1 := cell_keep x1 hz23
          replace x2 := cell_keep x2 hz23
          replace x3 := cell_keep x3 hz23
          replace x4 := cell_keep x4 hz23
          replace x5 := cell_keep x5 hz23
          go_wp2_with fail
          refine (HSM.out _ hq23).mono ?_
          rintro e z24 ⟨rfl, hz24⟩
          have hq24 := below_trans hq23 hz24
          replace x0 := cell_keep x0 hz24
          replace x1 := cell_keep x1 hz24
          replace x2 := cell_keep x2 hz24
          replace x3 := cell_keep x3 hz24
          replace x4 := cell_keep x4 hz24
          replace x5 := cell_keep x5 hz24
          go_wp2_with fail
          go_ret
          exact ⟨rfl, below_trans HBL.out hq24⟩
end Go.Proofs.Ytjcbdfnjlboadaa
