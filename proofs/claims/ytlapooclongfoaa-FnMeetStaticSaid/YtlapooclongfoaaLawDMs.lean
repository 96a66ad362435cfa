/- The law on MeetStatic: it returns true and writes nothing that was there. -/
import Derived.Test.YtlapooclongfoaaDr8
import Derived.Test.YtlapooclongfoaaMsP
import Derived.Test.YtlapooclongfoaaReg
import Derived.Test.YtlapooclongfoaaRaw
import Derived.Test.YtlapooclongfoaaDMt
import Derived.Test.YtlapooclongfoaaMeetT
import Derived.Deep.RegionHeld3
namespace Go.Proofs.Ytlapooclongfoaa
open Go.RowKit

set_option linter.unusedSimpArgs false in
set_option linter.unusedVariables false in
set_option maxRecDepth 100000 in
set_option maxHeartbeats 8000000 in
theorem lawDMs (a : Option Addr) (n cap : Nat) (w : World) (hB : BytA w a n) (hn : n ≤ cap) (hm : cap ≤ maxLen) :
    Calls Try.prog 3 #[.slice a n cap] w fun e w' => e = .returned (.bool true) ∧ Below w.heap.size w w' := by
  by_cases hl : (n : Int) > 1048576
  · clear hB
    go_enter Try.func3, Try.ntmps3
    go_wp2_with fail
    go_ret
    exact ⟨rfl, Below.refl _ _⟩
  have HD := hid (drawMeet_any a n cap w hB hn hm)
  clear hB
  go_enter Try.func3, Try.ntmps3
  go_wp2_with fail
  refine HD.out.mono ?_
  rintro e w1 ⟨t1, t2, v1, v2, f1, f2, rfl, hsm, h1, h2, g1, g2, hb⟩
  obtain ⟨k1, n1, a1, c1, rfl⟩ := h1.agg
  obtain ⟨k2, n2, a2, c2, rfl⟩ := h2.agg
  have hal : Below w1.heap.size w1 ((w1.alloc (Obj.cells #[.int .i64 k1, .slice a1 n1 c1] 25)).alloc (Obj.cells #[.int .i64 k2, .slice a2 n2 c2] 25)) := ((Below.refl _ _).alloc (Nat.le_refl _) _).alloc (by simp) _
  have HSZ := hid hsm
  have HR1 := hid (show ∀ x ∈ f1, Raw ((w1.alloc (Obj.cells #[.int .i64 k1, .slice a1 n1 c1] 25)).alloc (Obj.cells #[.int .i64 k2, .slice a2 n2 c2] 25)) x from fun x hx => Raw.below ⟨h1.laid x hx, (g1 x hx).2⟩ hal)
  have HR2 := hid (show ∀ x ∈ f2, Raw ((w1.alloc (Obj.cells #[.int .i64 k1, .slice a1 n1 c1] 25)).alloc (Obj.cells #[.int .i64 k2, .slice a2 n2 c2] 25)) x from fun x hx => Raw.below ⟨h2.laid x hx, (g2 x hx).2⟩ hal)
  have HBL := hid (below_trans hb hal)
  have H1 := hid (h1.below hal)
  have H2 := hid (h2.below hal)
  have HM := hid (fun (W : World) (h : Below (((w1.alloc (Obj.cells #[.int .i64 k1, .slice a1 n1 c1] 25)).alloc (Obj.cells #[.int .i64 k2, .slice a2 n2 c2] 25))).heap.size ((w1.alloc (Obj.cells #[.int .i64 k1, .slice a1 n1 c1] 25)).alloc (Obj.cells #[.int .i64 k2, .slice a2 n2 c2] 25)) W) => implMeetTypes t1 t2 _ _ _ _ W (H1.out.below h) (H2.out.below h) (by have := HSZ.out.1; omega) (by have := HSZ.out.2; omega))
  have HW := hid (fun (W : World) (h : Below (((w1.alloc (Obj.cells #[.int .i64 k1, .slice a1 n1 c1] 25)).alloc (Obj.cells #[.int .i64 k2, .slice a2 n2 c2] 25))).heap.size ((w1.alloc (Obj.cells #[.int .i64 k1, .slice a1 n1 c1] 25)).alloc (Obj.cells #[.int .i64 k2, .slice a2 n2 c2] 25)) W) => specMeetTypes t1 t2 _ _ _ _ W (H1.out.below h) (H2.out.below h) (by have := HSZ.out.1; omega) (by have := HSZ.out.2; omega))
  obtain ⟨x0, x1, x2, x3⟩ := box_cells2 (Below.refl (((w1.alloc (Obj.cells #[.int .i64 k1, .slice a1 n1 c1] 25)).alloc (Obj.cells #[.int .i64 k2, .slice a2 n2 c2] 25))).heap.size ((w1.alloc (Obj.cells #[.int .i64 k1, .slice a1 n1 c1] 25)).alloc (Obj.cells #[.int .i64 k2, .slice a2 n2 c2] 25)))
  have h0 := Below.refl (((w1.alloc (Obj.cells #[.int .i64 k1, .slice a1 n1 c1] 25)).alloc (Obj.cells #[.int .i64 k2, .slice a2 n2 c2] 25))).heap.size ((w1.alloc (Obj.cells #[.int .i64 k1, .slice a1 n1 c1] 25)).alloc (Obj.cells #[.int .i64 k2, .slice a2 n2 c2] 25))
  clear h1 h2 hb hal g1 g2 hsm HD
  go_wp2_with fail
  refine (HM.out _ h0).mono ?_
  rintro e w2 ⟨vm, f3, rfl, hatm, hfm, hb2⟩
  obtain ⟨k3, n3, a3, c3, rfl⟩ := hatm.agg
  have hal : Below w2.heap.size w2 (w2.alloc (Obj.cells #[.int .i64 k3, .slice a3 n3 c3] 25)) := (Below.refl _ _).alloc (Nat.le_refl _) _
  have hbM := below_trans hb2 hal
  have HBM := hid hbM
  have HR3 := hid (show ∀ x ∈ f3, Raw (w2.alloc (Obj.cells #[.int .i64 k3, .slice a3 n3 c3] 25)) x from fun x hx => Raw.below ⟨hatm.laid x hx, (hfm.2 x hx).2.2⟩ hal)
  have H3 := hid (hatm.below hal)
  have hEm := alloc_new w2 (Obj.cells #[.int .i64 k3, .slice a3 n3 c3] 25)
  have x4 : ((w2.alloc (Obj.cells #[.int .i64 k3, .slice a3 n3 c3] 25))).cell? ⟨w2.heap.size, 0, none⟩ = some (.int .i64 k3) := by rw [cell_of_block hEm]; rfl
  have x5 : ((w2.alloc (Obj.cells #[.int .i64 k3, .slice a3 n3 c3] 25))).cell? ⟨w2.heap.size, 1, none⟩ = some (.slice a3 n3 c3) := by rw [cell_of_block hEm]; rfl
  replace x0 := cell_keep x0 hbM
  replace x1 := cell_keep x1 hbM
  replace x2 := cell_keep x2 hbM
  replace x3 := cell_keep x3 hbM
  clear hatm hfm hal hEm hb2 h0
  go_wp2_with fail
  refine (HW.out _ HBM.out).mono ?_
  rintro e w3 ⟨vw, f4, rfl, hatw, hfw, hb3⟩
  obtain ⟨k4, n4, a4, c4, rfl⟩ := hatw.agg
  have hal : Below w3.heap.size w3 (w3.alloc (Obj.cells #[.int .i64 k4, .slice a4 n4 c4] 25)) := (Below.refl _ _).alloc (Nat.le_refl _) _
  have hbW := below_trans hb3 hal
  have HBW := hid hbW
  have HBX := hid (below_trans hbM hbW)
  have HR4 := hid (show ∀ x ∈ f4, Raw (w3.alloc (Obj.cells #[.int .i64 k4, .slice a4 n4 c4] 25)) x from fun x hx => Raw.below ⟨hatw.laid x hx, (hfw.2 x hx).2.2⟩ hal)
  have H4 := hid (hatw.below hal)
  have hEm := alloc_new w3 (Obj.cells #[.int .i64 k4, .slice a4 n4 c4] 25)
  have x6 : ((w3.alloc (Obj.cells #[.int .i64 k4, .slice a4 n4 c4] 25))).cell? ⟨w3.heap.size, 0, none⟩ = some (.int .i64 k4) := by rw [cell_of_block hEm]; rfl
  have x7 : ((w3.alloc (Obj.cells #[.int .i64 k4, .slice a4 n4 c4] 25))).cell? ⟨w3.heap.size, 1, none⟩ = some (.slice a4 n4 c4) := by rw [cell_of_block hEm]; rfl
  replace x0 := cell_keep x0 hbW
  replace x1 := cell_keep x1 hbW
  replace x2 := cell_keep x2 hbW
  replace x3 := cell_keep x3 hbW
  replace x4 := cell_keep x4 hbW
  replace x5 := cell_keep x5 hbW
  have G1 := hid (H1.out.below HBX.out)
  have G2 := hid (H2.out.below HBX.out)
  have G3 := hid (H3.out.below HBW.out)
  have Q1 := hid (show ∀ x ∈ f1, Raw (w3.alloc (Obj.cells #[.int .i64 k4, .slice a4 n4 c4] 25)) x from fun x hx => (HR1.out x hx).below HBX.out)
  have Q2 := hid (show ∀ x ∈ f2, Raw (w3.alloc (Obj.cells #[.int .i64 k4, .slice a4 n4 c4] 25)) x from fun x hx => (HR2.out x hx).below HBX.out)
  have Q3 := hid (show ∀ x ∈ f3, Raw (w3.alloc (Obj.cells #[.int .i64 k4, .slice a4 n4 c4] 25)) x from fun x hx => (HR3.out x hx).below HBW.out)
  have HMC := hid (show (meetOf t1 t2).cnt ≤ 200 by have := meetOf_cnt t1 t2; have := HSZ.out.1; have := HSZ.out.2; omega)
  clear hatw hfw hal hEm hb3 hbM hbW
  have h0 := Below.refl ((w3.alloc (Obj.cells #[.int .i64 k4, .slice a4 n4 c4] 25))).heap.size (w3.alloc (Obj.cells #[.int .i64 k4, .slice a4 n4 c4] 25))
  have HSM := hid (fun (W : World) (h : Below ((w3.alloc (Obj.cells #[.int .i64 k4, .slice a4 n4 c4] 25))).heap.size (w3.alloc (Obj.cells #[.int .i64 k4, .slice a4 n4 c4] 25)) W) => implTypeSame (meetOf t1 t2) (meetOf t1 t2) _ _ _ _ W (by have := HMC.out; omega) (G3.out.below h) (H4.out.below h) (fun x hx => (Q3.out x hx).below h) (fun x hx => (HR4.out x hx).below h))
  rw [tyEq_refl] at HSM
  have HMA := hid (fun (W : World) (h : Below ((w3.alloc (Obj.cells #[.int .i64 k4, .slice a4 n4 c4] 25))).heap.size (w3.alloc (Obj.cells #[.int .i64 k4, .slice a4 n4 c4] 25)) W) => implTypeSame (meetOf t1 t2) t1 _ _ _ _ W (by have := HMC.out; omega) (G3.out.below h) (G1.out.below h) (fun x hx => (Q3.out x hx).below h) (fun x hx => (Q1.out x hx).below h))
  have HMB := hid (fun (W : World) (h : Below ((w3.alloc (Obj.cells #[.int .i64 k4, .slice a4 n4 c4] 25))).heap.size (w3.alloc (Obj.cells #[.int .i64 k4, .slice a4 n4 c4] 25)) W) => implTypeSame (meetOf t1 t2) t2 _ _ _ _ W (by have := HMC.out; omega) (G3.out.below h) (G2.out.below h) (fun x hx => (Q3.out x hx).below h) (fun x hx => (Q2.out x hx).below h))
  have HSA := hid (fun (W : World) (h : Below ((w3.alloc (Obj.cells #[.int .i64 k4, .slice a4 n4 c4] 25))).heap.size (w3.alloc (Obj.cells #[.int .i64 k4, .slice a4 n4 c4] 25)) W) => implIsStatic t1 _ _ W (G1.out.below h) (by have := HSZ.out.1; omega))
  have HSB := hid (fun (W : World) (h : Below ((w3.alloc (Obj.cells #[.int .i64 k4, .slice a4 n4 c4] 25))).heap.size (w3.alloc (Obj.cells #[.int .i64 k4, .slice a4 n4 c4] 25)) W) => implIsStatic t2 _ _ W (G2.out.below h) (by have := HSZ.out.2; omega))
  have HCM := hid (fun (W : World) (h : Below ((w3.alloc (Obj.cells #[.int .i64 k4, .slice a4 n4 c4] 25))).heap.size (w3.alloc (Obj.cells #[.int .i64 k4, .slice a4 n4 c4] 25)) W) => implCountAny (meetOf t1 t2) _ _ W (G3.out.below h) (by have := HMC.out; omega))
  have HCA := hid (fun (W : World) (h : Below ((w3.alloc (Obj.cells #[.int .i64 k4, .slice a4 n4 c4] 25))).heap.size (w3.alloc (Obj.cells #[.int .i64 k4, .slice a4 n4 c4] 25)) W) => implCountAny t1 _ _ W (G1.out.below h) (by have := HSZ.out.1; omega))
  have HCB := hid (fun (W : World) (h : Below ((w3.alloc (Obj.cells #[.int .i64 k4, .slice a4 n4 c4] 25))).heap.size (w3.alloc (Obj.cells #[.int .i64 k4, .slice a4 n4 c4] 25)) W) => implCountAny t2 _ _ W (G2.out.below h) (by have := HSZ.out.2; omega))
  have HMS := hid (ms_pure t1 t2)
  have b1 := anyOf_bd t1
  have b2 := anyOf_bd t2
  have b3 : anyOf t1 ≤ 101 ∧ anyOf t2 ≤ 101 := by have := HSZ.out.1; have := HSZ.out.2; omega
  replace b1 := b1.1
  replace b2 := b2.1
  generalize consOf t1 t2 = r at *
  generalize staOf t1 = sa at *
  generalize staOf t2 = sb at *
  generalize tyEq (meetOf t1 t2) t1 = ea at *
  generalize tyEq (meetOf t1 t2) t2 = eb at *
  generalize anyOf (meetOf t1 t2) = cm at *
  generalize anyOf t1 = ca at *
  generalize anyOf t2 = cb at *
  clear H1 H2 H3 H4 HR1 HR2 HR3 HR4 Q1 Q2 Q3 G1 G2 G3 HM HW HBM HBW
  cases r
  · go_wp2_with fail
    refine (HSM.out _ h0).mono ?_
    rintro e z1 ⟨rfl, hz1⟩
    have hq1 := below_trans h0 hz1
    replace x0 := cell_keep x0 hz1
    replace x1 := cell_keep x1 hz1
    replace x2 := cell_keep x2 hz1
    replace x3 := cell_keep x3 hz1
    replace x4 := cell_keep x4 hz1
    replace x5 := cell_keep x5 hz1
    replace x6 := cell_keep x6 hz1
    replace x7 := cell_keep x7 hz1
    go_wp2_with fail
    refine (HSM.out _ hq1).mono ?_
    rintro e z2 ⟨rfl, hz2⟩
    have hq2 := below_trans hq1 hz2
    replace x0 := cell_keep x0 hz2
    replace x1 := cell_keep x1 hz2
    replace x2 := cell_keep x2 hz2
    replace x3 := cell_keep x3 hz2
    replace x4 := cell_keep x4 hz2
    replace x5 := cell_keep x5 hz2
    replace x6 := cell_keep x6 hz2
    replace x7 := cell_keep x7 hz2
    go_wp2_with fail
    go_ret
    exact ⟨rfl, below_trans HBL.out (below_trans HBX.out hq2)⟩
  · have HT : (sa = true → ea = true) ∧ (sb = true → eb = true) ∧ cm ≤ ca + cb := by first | exact HMS.out rfl | exact HMS.out trivial | exact HMS.out
    obtain ⟨hta, htb, hle⟩ := HT
    have hwr := wrapN (ca + cb) (by omega) (by omega)
    have HTA := hid hta
    have HTB := hid htb
    clear hta htb
    cases sa
    · cases sb
      · go_wp2_with fail
        refine (HSM.out _ h0).mono ?_
        rintro e z3 ⟨rfl, hz3⟩
        have hq3 := below_trans h0 hz3
        replace x0 := cell_keep x0 hz3
        replace x1 := cell_keep x1 hz3
        replace x2 := cell_keep x2 hz3
        replace x3 := cell_keep x3 hz3
        replace x4 := cell_keep x4 hz3
        replace x5 := cell_keep x5 hz3
        replace x6 := cell_keep x6 hz3
        replace x7 := cell_keep x7 hz3
        go_wp2_with fail
        refine wp_region_held_drew (S := (fun w' => Below (z3).heap.size (z3) w' ∧ w'.cell? ⟨w1.heap.size, 0, none⟩ = some (.int .i64 k1) ∧ w'.cell? ⟨w1.heap.size, 1, none⟩ = some (.slice a1 n1 c1) ∧ w'.cell? ⟨w1.heap.size + 1, 0, none⟩ = some (.int .i64 k2) ∧ w'.cell? ⟨w1.heap.size + 1, 1, none⟩ = some (.slice a2 n2 c2) ∧ w'.cell? ⟨w2.heap.size, 0, none⟩ = some (.int .i64 k3) ∧ w'.cell? ⟨w2.heap.size, 1, none⟩ = some (.slice a3 n3 c3) ∧ w'.cell? ⟨w3.heap.size, 0, none⟩ = some (.int .i64 k4) ∧ w'.cell? ⟨w3.heap.size, 1, none⟩ = some (.slice a4 n4 c4))) (by kernel_rfl) ?_ (fun hS0 => ?_)
        · (refine (fun hB => ⟨hB, cell_keep x0 hB, cell_keep x1 hB, cell_keep x2 hB, cell_keep x3 hB, cell_keep x4 hB, cell_keep x5 hB, cell_keep x6 hB, cell_keep x7 hB⟩ : Below (z3).heap.size (z3) _ → _) ?_; exact below_drew _)
        refine regTake (i := 0) (v := ?vg4_0) rfl (by kernel_rfl) (by kernel_rfl) (by kernel_rfl) (fun _ _ _ h => h) (Or.inl ⟨by rfl, ?hyg4_0⟩) (by assumption) ?_
        case hyg4_0 => (intro w hSw; (try dsimp only at hSw); go_simp; (try with_reducible rfl))
        try simp only [Act.put, List.setIfInBounds_toArray, List.set_cons_zero, List.set_cons_succ]
        refine wpAnyH_ready (rs := [1]) (by kernel_rfl) (by simp) ?_
        refine regCons rfl (fun K hK => ?_)
        go_simp
        refine (HSA.out _ (below_trans hq3 (below_drew (z3)))).mono ?_
        rintro e yg4_0 ⟨rfl, hyg4_0⟩
        have hkg4_0 := below_trans (below_drew (z3)) hyg4_0
        refine hK.out _ _ ?_ (fun hS1 => ?_)
        · (refine (fun hB => ⟨hB, cell_keep x0 hB, cell_keep x1 hB, cell_keep x2 hB, cell_keep x3 hB, cell_keep x4 hB, cell_keep x5 hB, cell_keep x6 hB, cell_keep x7 hB⟩ : Below (z3).heap.size (z3) _ → _) ?_; exact hkg4_0)
        clear hK K hS0
        try simp only [Act.put, List.setIfInBounds_toArray, List.set_cons_zero, List.set_cons_succ]
        refine regTake (i := 2) (v := ?vg4_2) rfl (by kernel_rfl) (by kernel_rfl) (by kernel_rfl) (fun _ _ _ h => h) (Or.inl ⟨by rfl, ?hyg4_2⟩) (by assumption) ?_
        case hyg4_2 => (intro w hSw; (try dsimp only at hSw); go_simp; (try with_reducible rfl))
        try simp only [Act.put, List.setIfInBounds_toArray, List.set_cons_zero, List.set_cons_succ]
        refine regTake (i := 3) (v := ?vg4_3) rfl (by kernel_rfl) (by kernel_rfl) (by kernel_rfl) (fun _ _ _ h => h) (Or.inl ⟨by rfl, ?hyg4_3⟩) (by assumption) ?_
        case hyg4_3 => (intro w hSw; (try dsimp only at hSw); go_simp; (try with_reducible rfl))
        try simp only [Act.put, List.setIfInBounds_toArray, List.set_cons_zero, List.set_cons_succ]
        refine regTake (i := 4) (v := undef) rfl (by kernel_rfl) (by kernel_rfl) (by kernel_rfl) (fun _ _ _ h => h) (Or.inr ⟨by rfl, rfl⟩) (by assumption) ?_
        try simp only [Act.put, List.setIfInBounds_toArray, List.set_cons_zero, List.set_cons_succ]
        refine regTake (i := 5) (v := undef) rfl (by kernel_rfl) (by kernel_rfl) (by kernel_rfl) (fun _ _ _ h => h) (Or.inr ⟨by rfl, rfl⟩) (by assumption) ?_
        try simp only [Act.put, List.setIfInBounds_toArray, List.set_cons_zero, List.set_cons_succ]
        refine regTake (i := 6) (v := undef) rfl (by kernel_rfl) (by kernel_rfl) (by kernel_rfl) (fun _ _ _ h => h) (Or.inr ⟨by rfl, rfl⟩) (by assumption) ?_
        try simp only [Act.put, List.setIfInBounds_toArray, List.set_cons_zero, List.set_cons_succ]
        refine regTake (i := 7) (v := .bool true) rfl (by kernel_rfl) (by kernel_rfl) (by kernel_rfl) (fun _ _ _ h => h) (Or.inl ⟨by rfl, ?hyg4_7⟩) (by assumption) ?_
        case hyg4_7 => (intro w hSw; (try dsimp only at hSw); go_simp; (try with_reducible rfl))
        try simp only [Act.put, List.setIfInBounds_toArray, List.set_cons_zero, List.set_cons_succ]
        refine regTake (i := 8) (v := ?vg4_8) rfl (by kernel_rfl) (by kernel_rfl) (by kernel_rfl) (fun _ _ _ h => h) (Or.inl ⟨by rfl, ?hyg4_8⟩) (by assumption) ?_
        case hyg4_8 => (intro w hSw; (try dsimp only at hSw); go_simp; (try with_reducible rfl))
        try simp only [Act.put, List.setIfInBounds_toArray, List.set_cons_zero, List.set_cons_succ]
        refine regTake (i := 9) (v := ?vg4_9) rfl (by kernel_rfl) (by kernel_rfl) (by kernel_rfl) (fun _ _ _ h => h) (Or.inl ⟨by rfl, ?hyg4_9⟩) (by assumption) ?_
        case hyg4_9 => (intro w hSw; (try dsimp only at hSw); go_simp; (try with_reducible rfl))
        try simp only [Act.put, List.setIfInBounds_toArray, List.set_cons_zero, List.set_cons_succ]
        refine wpAnyH_ready (rs := [10]) (by kernel_rfl) (by simp) ?_
        refine regCons rfl (fun K hK => ?_)
        go_simp
        refine (HSB.out _ (below_trans hq3 (hkg4_0))).mono ?_
        rintro e yg4_1 ⟨rfl, hyg4_1⟩
        have hkg4_1 := below_trans (hkg4_0) hyg4_1
        refine hK.out _ _ ?_ (fun hS2 => ?_)
        · (refine (fun hB => ⟨hB, cell_keep x0 hB, cell_keep x1 hB, cell_keep x2 hB, cell_keep x3 hB, cell_keep x4 hB, cell_keep x5 hB, cell_keep x6 hB, cell_keep x7 hB⟩ : Below (z3).heap.size (z3) _ → _) ?_; exact hkg4_1)
        clear hK K hS1
        try simp only [Act.put, List.setIfInBounds_toArray, List.set_cons_zero, List.set_cons_succ]
        refine regTake (i := 11) (v := ?vg4_11) rfl (by kernel_rfl) (by kernel_rfl) (by kernel_rfl) (fun _ _ _ h => h) (Or.inl ⟨by rfl, ?hyg4_11⟩) (by assumption) ?_
        case hyg4_11 => (intro w hSw; (try dsimp only at hSw); go_simp; (try with_reducible rfl))
        try simp only [Act.put, List.setIfInBounds_toArray, List.set_cons_zero, List.set_cons_succ]
        refine regTake (i := 12) (v := ?vg4_12) rfl (by kernel_rfl) (by kernel_rfl) (by kernel_rfl) (fun _ _ _ h => h) (Or.inl ⟨by rfl, ?hyg4_12⟩) (by assumption) ?_
        case hyg4_12 => (intro w hSw; (try dsimp only at hSw); go_simp; (try with_reducible rfl))
        try simp only [Act.put, List.setIfInBounds_toArray, List.set_cons_zero, List.set_cons_succ]
        refine regTake (i := 13) (v := undef) rfl (by kernel_rfl) (by kernel_rfl) (by kernel_rfl) (fun _ _ _ h => h) (Or.inr ⟨by rfl, rfl⟩) (by assumption) ?_
        try simp only [Act.put, List.setIfInBounds_toArray, List.set_cons_zero, List.set_cons_succ]
        refine regTake (i := 14) (v := undef) rfl (by kernel_rfl) (by kernel_rfl) (by kernel_rfl) (fun _ _ _ h => h) (Or.inr ⟨by rfl, rfl⟩) (by assumption) ?_
        try simp only [Act.put, List.setIfInBounds_toArray, List.set_cons_zero, List.set_cons_succ]
        refine regTake (i := 15) (v := undef) rfl (by kernel_rfl) (by kernel_rfl) (by kernel_rfl) (fun _ _ _ h => h) (Or.inr ⟨by rfl, rfl⟩) (by assumption) ?_
        try simp only [Act.put, List.setIfInBounds_toArray, List.set_cons_zero, List.set_cons_succ]
        refine regTake (i := 16) (v := .bool true) rfl (by kernel_rfl) (by kernel_rfl) (by kernel_rfl) (fun _ _ _ h => h) (Or.inl ⟨by rfl, ?hyg4_16⟩) (by assumption) ?_
        case hyg4_16 => (intro w hSw; (try dsimp only at hSw); go_simp; (try with_reducible rfl))
        try simp only [Act.put, List.setIfInBounds_toArray, List.set_cons_zero, List.set_cons_succ]
        refine regTake (i := 17) (v := .bool true) rfl (by kernel_rfl) (by kernel_rfl) (by kernel_rfl) (fun _ _ _ h => h) (Or.inl ⟨by rfl, ?hyg4_17⟩) (by assumption) ?_
        case hyg4_17 => (intro w hSw; (try dsimp only at hSw); go_simp; (try with_reducible rfl))
        try simp only [Act.put, List.setIfInBounds_toArray, List.set_cons_zero, List.set_cons_succ]
        refine regTake (i := 18) (v := ?vg4_18) rfl (by kernel_rfl) (by kernel_rfl) (by kernel_rfl) (fun _ _ _ h => h) (Or.inl ⟨by rfl, ?hyg4_18⟩) (by assumption) ?_
        case hyg4_18 => (intro w hSw; (try dsimp only at hSw); go_simp; (try with_reducible rfl))
        try simp only [Act.put, List.setIfInBounds_toArray, List.set_cons_zero, List.set_cons_succ]
        refine regTake (i := 19) (v := ?vg4_19) rfl (by kernel_rfl) (by kernel_rfl) (by kernel_rfl) (fun _ _ _ h => h) (Or.inl ⟨by rfl, ?hyg4_19⟩) (by assumption) ?_
        case hyg4_19 => (intro w hSw; (try dsimp only at hSw); go_simp; (try with_reducible rfl))
        try simp only [Act.put, List.setIfInBounds_toArray, List.set_cons_zero, List.set_cons_succ]
        refine regTake (i := 21) (v := ?vg4_21) rfl (by kernel_rfl) (by kernel_rfl) (by kernel_rfl) (fun _ _ _ h => h) (Or.inl ⟨by rfl, ?hyg4_21⟩) (by assumption) ?_
        case hyg4_21 => (intro w hSw; (try dsimp only at hSw); go_simp; (try with_reducible rfl))
        try simp only [Act.put, List.setIfInBounds_toArray, List.set_cons_zero, List.set_cons_succ]
        refine regTake (i := 23) (v := ?vg4_23) rfl (by kernel_rfl) (by kernel_rfl) (by kernel_rfl) (fun _ _ _ h => h) (Or.inl ⟨by rfl, ?hyg4_23⟩) (by assumption) ?_
        case hyg4_23 => (intro w hSw; (try dsimp only at hSw); go_simp; (try with_reducible rfl))
        try simp only [Act.put, List.setIfInBounds_toArray, List.set_cons_zero, List.set_cons_succ]
        refine wpAnyH_ready (rs := [20]) (by kernel_rfl) (by simp) ?_
        refine regCons rfl (fun K hK => ?_)
        go_simp
        refine (HCM.out _ (below_trans hq3 (hkg4_1))).mono ?_
        rintro e yg4_2 ⟨rfl, hyg4_2⟩
        have hkg4_2 := below_trans (hkg4_1) hyg4_2
        refine hK.out _ _ ?_ (fun hS3 => ?_)
        · (refine (fun hB => ⟨hB, cell_keep x0 hB, cell_keep x1 hB, cell_keep x2 hB, cell_keep x3 hB, cell_keep x4 hB, cell_keep x5 hB, cell_keep x6 hB, cell_keep x7 hB⟩ : Below (z3).heap.size (z3) _ → _) ?_; exact hkg4_2)
        clear hK K hS2
        try simp only [Act.put, List.setIfInBounds_toArray, List.set_cons_zero, List.set_cons_succ]
        refine wpAnyH_ready (rs := [22]) (by kernel_rfl) (by simp) ?_
        refine regCons rfl (fun K hK => ?_)
        go_simp
        refine (HCA.out _ (below_trans hq3 (hkg4_2))).mono ?_
        rintro e yg4_3 ⟨rfl, hyg4_3⟩
        have hkg4_3 := below_trans (hkg4_2) hyg4_3
        refine hK.out _ _ ?_ (fun hS4 => ?_)
        · (refine (fun hB => ⟨hB, cell_keep x0 hB, cell_keep x1 hB, cell_keep x2 hB, cell_keep x3 hB, cell_keep x4 hB, cell_keep x5 hB, cell_keep x6 hB, cell_keep x7 hB⟩ : Below (z3).heap.size (z3) _ → _) ?_; exact hkg4_3)
        clear hK K hS3
        try simp only [Act.put, List.setIfInBounds_toArray, List.set_cons_zero, List.set_cons_succ]
        refine wpAnyH_ready (rs := [24]) (by kernel_rfl) (by simp) ?_
        refine regCons rfl (fun K hK => ?_)
        go_simp
        refine (HCB.out _ (below_trans hq3 (hkg4_3))).mono ?_
        rintro e yg4_4 ⟨rfl, hyg4_4⟩
        have hkg4_4 := below_trans (hkg4_3) hyg4_4
        refine hK.out _ _ ?_ (fun hS5 => ?_)
        · (refine (fun hB => ⟨hB, cell_keep x0 hB, cell_keep x1 hB, cell_keep x2 hB, cell_keep x3 hB, cell_keep x4 hB, cell_keep x5 hB, cell_keep x6 hB, cell_keep x7 hB⟩ : Below (z3).heap.size (z3) _ → _) ?_; exact hkg4_4)
        clear hK K hS4
        try simp only [Act.put, List.setIfInBounds_toArray, List.set_cons_zero, List.set_cons_succ]
        refine regTake (i := 25) (v := .int .i64 (ca + cb)) rfl (by kernel_rfl) (by kernel_rfl) (by kernel_rfl) (fun _ _ _ h => h) (Or.inl ⟨by rfl, ?hyg4_25⟩) (by assumption) ?_
        case hyg4_25 => (intro w hSw; (try dsimp only at hSw); go_simp; (try with_reducible rfl))
        try simp only [Act.put, List.setIfInBounds_toArray, List.set_cons_zero, List.set_cons_succ]
        refine regTake (i := 26) (v := .bool true) rfl (by kernel_rfl) (by kernel_rfl) (by kernel_rfl) (fun _ _ _ h => h) (Or.inl ⟨by rfl, ?hyg4_26⟩) (by assumption) ?_
        case hyg4_26 => (intro w hSw; (try dsimp only at hSw); go_simp; (try with_reducible rfl))
        try simp only [Act.put, List.setIfInBounds_toArray, List.set_cons_zero, List.set_cons_succ]
        refine regTake (i := 27) (v := .bool true) rfl (by kernel_rfl) (by kernel_rfl) (by kernel_rfl) (fun _ _ _ h => h) (Or.inl ⟨by rfl, ?hyg4_27⟩) (by assumption) ?_
        case hyg4_27 => (intro w hSw; (try dsimp only at hSw); go_simp; (try with_reducible rfl))
        try simp only [Act.put, List.setIfInBounds_toArray, List.set_cons_zero, List.set_cons_succ]
        refine regTake (i := 28) (v := ?vg4_28) rfl (by kernel_rfl) (by kernel_rfl) (by kernel_rfl) (fun _ _ _ h => h) (Or.inl ⟨by rfl, ?hyg4_28⟩) (by assumption) ?_
        case hyg4_28 => (intro w hSw; (try dsimp only at hSw); go_simp; (try with_reducible rfl))
        try simp only [Act.put, List.setIfInBounds_toArray, List.set_cons_zero, List.set_cons_succ]
        refine wpAnyH_done (by kernel_rfl) ?_ _
        have hlg4_ := below_trans hq3 hkg4_4
        go_wp2_with fail
        go_ret
        exact ⟨rfl, below_trans HBL.out (below_trans HBX.out hlg4_)⟩
      · have e7 : eb = true := by first | exact HTB.out rfl | exact HTB.out trivial | exact HTB.out
        subst e7
        go_wp2_with fail
        refine (HSM.out _ h0).mono ?_
        rintro e z5 ⟨rfl, hz5⟩
        have hq5 := below_trans h0 hz5
        replace x0 := cell_keep x0 hz5
        replace x1 := cell_keep x1 hz5
        replace x2 := cell_keep x2 hz5
        replace x3 := cell_keep x3 hz5
        replace x4 := cell_keep x4 hz5
        replace x5 := cell_keep x5 hz5
        replace x6 := cell_keep x6 hz5
        replace x7 := cell_keep x7 hz5
        go_wp2_with fail
        refine wp_region_held_drew (S := (fun w' => Below (z5).heap.size (z5) w' ∧ w'.cell? ⟨w1.heap.size, 0, none⟩ = some (.int .i64 k1) ∧ w'.cell? ⟨w1.heap.size, 1, none⟩ = some (.slice a1 n1 c1) ∧ w'.cell? ⟨w1.heap.size + 1, 0, none⟩ = some (.int .i64 k2) ∧ w'.cell? ⟨w1.heap.size + 1, 1, none⟩ = some (.slice a2 n2 c2) ∧ w'.cell? ⟨w2.heap.size, 0, none⟩ = some (.int .i64 k3) ∧ w'.cell? ⟨w2.heap.size, 1, none⟩ = some (.slice a3 n3 c3) ∧ w'.cell? ⟨w3.heap.size, 0, none⟩ = some (.int .i64 k4) ∧ w'.cell? ⟨w3.heap.size, 1, none⟩ = some (.slice a4 n4 c4))) (by kernel_rfl) ?_ (fun hS0 => ?_)
        · (refine (fun hB => ⟨hB, cell_keep x0 hB, cell_keep x1 hB, cell_keep x2 hB, cell_keep x3 hB, cell_keep x4 hB, cell_keep x5 hB, cell_keep x6 hB, cell_keep x7 hB⟩ : Below (z5).heap.size (z5) _ → _) ?_; exact below_drew _)
        refine regTake (i := 0) (v := ?vg6_0) rfl (by kernel_rfl) (by kernel_rfl) (by kernel_rfl) (fun _ _ _ h => h) (Or.inl ⟨by rfl, ?hyg6_0⟩) (by assumption) ?_
        case hyg6_0 => (intro w hSw; (try dsimp only at hSw); go_simp; (try with_reducible rfl))
        try simp only [Act.put, List.setIfInBounds_toArray, List.set_cons_zero, List.set_cons_succ]
        refine wpAnyH_ready (rs := [1]) (by kernel_rfl) (by simp) ?_
        refine regCons rfl (fun K hK => ?_)
        go_simp
        refine (HSA.out _ (below_trans hq5 (below_drew (z5)))).mono ?_
        rintro e yg6_0 ⟨rfl, hyg6_0⟩
        have hkg6_0 := below_trans (below_drew (z5)) hyg6_0
        refine hK.out _ _ ?_ (fun hS1 => ?_)
        · (refine (fun hB => ⟨hB, cell_keep x0 hB, cell_keep x1 hB, cell_keep x2 hB, cell_keep x3 hB, cell_keep x4 hB, cell_keep x5 hB, cell_keep x6 hB, cell_keep x7 hB⟩ : Below (z5).heap.size (z5) _ → _) ?_; exact hkg6_0)
        clear hK K hS0
        try simp only [Act.put, List.setIfInBounds_toArray, List.set_cons_zero, List.set_cons_succ]
        refine regTake (i := 2) (v := ?vg6_2) rfl (by kernel_rfl) (by kernel_rfl) (by kernel_rfl) (fun _ _ _ h => h) (Or.inl ⟨by rfl, ?hyg6_2⟩) (by assumption) ?_
        case hyg6_2 => (intro w hSw; (try dsimp only at hSw); go_simp; (try with_reducible rfl))
        try simp only [Act.put, List.setIfInBounds_toArray, List.set_cons_zero, List.set_cons_succ]
        refine regTake (i := 3) (v := ?vg6_3) rfl (by kernel_rfl) (by kernel_rfl) (by kernel_rfl) (fun _ _ _ h => h) (Or.inl ⟨by rfl, ?hyg6_3⟩) (by assumption) ?_
        case hyg6_3 => (intro w hSw; (try dsimp only at hSw); go_simp; (try with_reducible rfl))
        try simp only [Act.put, List.setIfInBounds_toArray, List.set_cons_zero, List.set_cons_succ]
        refine regTake (i := 4) (v := undef) rfl (by kernel_rfl) (by kernel_rfl) (by kernel_rfl) (fun _ _ _ h => h) (Or.inr ⟨by rfl, rfl⟩) (by assumption) ?_
        try simp only [Act.put, List.setIfInBounds_toArray, List.set_cons_zero, List.set_cons_succ]
        refine regTake (i := 5) (v := undef) rfl (by kernel_rfl) (by kernel_rfl) (by kernel_rfl) (fun _ _ _ h => h) (Or.inr ⟨by rfl, rfl⟩) (by assumption) ?_
        try simp only [Act.put, List.setIfInBounds_toArray, List.set_cons_zero, List.set_cons_succ]
        refine regTake (i := 6) (v := undef) rfl (by kernel_rfl) (by kernel_rfl) (by kernel_rfl) (fun _ _ _ h => h) (Or.inr ⟨by rfl, rfl⟩) (by assumption) ?_
        try simp only [Act.put, List.setIfInBounds_toArray, List.set_cons_zero, List.set_cons_succ]
        refine regTake (i := 7) (v := .bool true) rfl (by kernel_rfl) (by kernel_rfl) (by kernel_rfl) (fun _ _ _ h => h) (Or.inl ⟨by rfl, ?hyg6_7⟩) (by assumption) ?_
        case hyg6_7 => (intro w hSw; (try dsimp only at hSw); go_simp; (try with_reducible rfl))
        try simp only [Act.put, List.setIfInBounds_toArray, List.set_cons_zero, List.set_cons_succ]
        refine regTake (i := 8) (v := ?vg6_8) rfl (by kernel_rfl) (by kernel_rfl) (by kernel_rfl) (fun _ _ _ h => h) (Or.inl ⟨by rfl, ?hyg6_8⟩) (by assumption) ?_
        case hyg6_8 => (intro w hSw; (try dsimp only at hSw); go_simp; (try with_reducible rfl))
        try simp only [Act.put, List.setIfInBounds_toArray, List.set_cons_zero, List.set_cons_succ]
        refine regTake (i := 9) (v := ?vg6_9) rfl (by kernel_rfl) (by kernel_rfl) (by kernel_rfl) (fun _ _ _ h => h) (Or.inl ⟨by rfl, ?hyg6_9⟩) (by assumption) ?_
        case hyg6_9 => (intro w hSw; (try dsimp only at hSw); go_simp; (try with_reducible rfl))
        try simp only [Act.put, List.setIfInBounds_toArray, List.set_cons_zero, List.set_cons_succ]
        refine wpAnyH_ready (rs := [10]) (by kernel_rfl) (by simp) ?_
        refine regCons rfl (fun K hK => ?_)
        go_simp
        refine (HSB.out _ (below_trans hq5 (hkg6_0))).mono ?_
        rintro e yg6_1 ⟨rfl, hyg6_1⟩
        have hkg6_1 := below_trans (hkg6_0) hyg6_1
        refine hK.out _ _ ?_ (fun hS2 => ?_)
        · (refine (fun hB => ⟨hB, cell_keep x0 hB, cell_keep x1 hB, cell_keep x2 hB, cell_keep x3 hB, cell_keep x4 hB, cell_keep x5 hB, cell_keep x6 hB, cell_keep x7 hB⟩ : Below (z5).heap.size (z5) _ → _) ?_; exact hkg6_1)
        clear hK K hS1
        try simp only [Act.put, List.setIfInBounds_toArray, List.set_cons_zero, List.set_cons_succ]
        refine regTake (i := 11) (v := ?vg6_11) rfl (by kernel_rfl) (by kernel_rfl) (by kernel_rfl) (fun _ _ _ h => h) (Or.inl ⟨by rfl, ?hyg6_11⟩) (by assumption) ?_
        case hyg6_11 => (intro w hSw; (try dsimp only at hSw); go_simp; (try with_reducible rfl))
        try simp only [Act.put, List.setIfInBounds_toArray, List.set_cons_zero, List.set_cons_succ]
        refine regTake (i := 12) (v := ?vg6_12) rfl (by kernel_rfl) (by kernel_rfl) (by kernel_rfl) (fun _ _ _ h => h) (Or.inl ⟨by rfl, ?hyg6_12⟩) (by assumption) ?_
        case hyg6_12 => (intro w hSw; (try dsimp only at hSw); go_simp; (try with_reducible rfl))
        try simp only [Act.put, List.setIfInBounds_toArray, List.set_cons_zero, List.set_cons_succ]
        refine regTake (i := 13) (v := ?vg6_13) rfl (by kernel_rfl) (by kernel_rfl) (by kernel_rfl) (fun _ _ _ h => h) (Or.inl ⟨by rfl, ?hyg6_13⟩) (by assumption) ?_
        case hyg6_13 => (intro w hSw; (try dsimp only at hSw); go_simp; (try with_reducible rfl))
        try simp only [Act.put, List.setIfInBounds_toArray, List.set_cons_zero, List.set_cons_succ]
        refine regTake (i := 14) (v := ?vg6_14) rfl (by kernel_rfl) (by kernel_rfl) (by kernel_rfl) (fun _ _ _ h => h) (Or.inl ⟨by rfl, ?hyg6_14⟩) (by assumption) ?_
        case hyg6_14 => (intro w hSw; (try dsimp only at hSw); go_simp; (try with_reducible rfl))
        try simp only [Act.put, List.setIfInBounds_toArray, List.set_cons_zero, List.set_cons_succ]
        refine wpAnyH_ready (rs := [15]) (by kernel_rfl) (by simp) ?_
        refine regCons rfl (fun K hK => ?_)
        go_simp
        refine (HMB.out _ (below_trans hq5 (hkg6_1))).mono ?_
        rintro e yg6_2 ⟨rfl, hyg6_2⟩
        have hkg6_2 := below_trans (hkg6_1) hyg6_2
        refine hK.out _ _ ?_ (fun hS3 => ?_)
        · (refine (fun hB => ⟨hB, cell_keep x0 hB, cell_keep x1 hB, cell_keep x2 hB, cell_keep x3 hB, cell_keep x4 hB, cell_keep x5 hB, cell_keep x6 hB, cell_keep x7 hB⟩ : Below (z5).heap.size (z5) _ → _) ?_; exact hkg6_2)
        clear hK K hS2
        try simp only [Act.put, List.setIfInBounds_toArray, List.set_cons_zero, List.set_cons_succ]
        refine regTake (i := 16) (v := .bool true) rfl (by kernel_rfl) (by kernel_rfl) (by kernel_rfl) (fun _ _ _ h => h) (Or.inl ⟨by rfl, ?hyg6_16⟩) (by assumption) ?_
        case hyg6_16 => (intro w hSw; (try dsimp only at hSw); go_simp; (try with_reducible rfl))
        try simp only [Act.put, List.setIfInBounds_toArray, List.set_cons_zero, List.set_cons_succ]
        refine regTake (i := 17) (v := .bool true) rfl (by kernel_rfl) (by kernel_rfl) (by kernel_rfl) (fun _ _ _ h => h) (Or.inl ⟨by rfl, ?hyg6_17⟩) (by assumption) ?_
        case hyg6_17 => (intro w hSw; (try dsimp only at hSw); go_simp; (try with_reducible rfl))
        try simp only [Act.put, List.setIfInBounds_toArray, List.set_cons_zero, List.set_cons_succ]
        refine regTake (i := 18) (v := ?vg6_18) rfl (by kernel_rfl) (by kernel_rfl) (by kernel_rfl) (fun _ _ _ h => h) (Or.inl ⟨by rfl, ?hyg6_18⟩) (by assumption) ?_
        case hyg6_18 => (intro w hSw; (try dsimp only at hSw); go_simp; (try with_reducible rfl))
        try simp only [Act.put, List.setIfInBounds_toArray, List.set_cons_zero, List.set_cons_succ]
        refine regTake (i := 19) (v := ?vg6_19) rfl (by kernel_rfl) (by kernel_rfl) (by kernel_rfl) (fun _ _ _ h => h) (Or.inl ⟨by rfl, ?hyg6_19⟩) (by assumption) ?_
        case hyg6_19 => (intro w hSw; (try dsimp only at hSw); go_simp; (try with_reducible rfl))
        try simp only [Act.put, List.setIfInBounds_toArray, List.set_cons_zero, List.set_cons_succ]
        refine regTake (i := 21) (v := ?vg6_21) rfl (by kernel_rfl) (by kernel_rfl) (by kernel_rfl) (fun _ _ _ h => h) (Or.inl ⟨by rfl, ?hyg6_21⟩) (by assumption) ?_
        case hyg6_21 => (intro w hSw; (try dsimp only at hSw); go_simp; (try with_reducible rfl))
        try simp only [Act.put, List.setIfInBounds_toArray, List.set_cons_zero, List.set_cons_succ]
        refine regTake (i := 23) (v := ?vg6_23) rfl (by kernel_rfl) (by kernel_rfl) (by kernel_rfl) (fun _ _ _ h => h) (Or.inl ⟨by rfl, ?hyg6_23⟩) (by assumption) ?_
        case hyg6_23 => (intro w hSw; (try dsimp only at hSw); go_simp; (try with_reducible rfl))
        try simp only [Act.put, List.setIfInBounds_toArray, List.set_cons_zero, List.set_cons_succ]
        refine wpAnyH_ready (rs := [20]) (by kernel_rfl) (by simp) ?_
        refine regCons rfl (fun K hK => ?_)
        go_simp
        refine (HCM.out _ (below_trans hq5 (hkg6_2))).mono ?_
        rintro e yg6_3 ⟨rfl, hyg6_3⟩
        have hkg6_3 := below_trans (hkg6_2) hyg6_3
        refine hK.out _ _ ?_ (fun hS4 => ?_)
        · (refine (fun hB => ⟨hB, cell_keep x0 hB, cell_keep x1 hB, cell_keep x2 hB, cell_keep x3 hB, cell_keep x4 hB, cell_keep x5 hB, cell_keep x6 hB, cell_keep x7 hB⟩ : Below (z5).heap.size (z5) _ → _) ?_; exact hkg6_3)
        clear hK K hS3
        try simp only [Act.put, List.setIfInBounds_toArray, List.set_cons_zero, List.set_cons_succ]
        refine wpAnyH_ready (rs := [22]) (by kernel_rfl) (by simp) ?_
        refine regCons rfl (fun K hK => ?_)
        go_simp
        refine (HCA.out _ (below_trans hq5 (hkg6_3))).mono ?_
        rintro e yg6_4 ⟨rfl, hyg6_4⟩
        have hkg6_4 := below_trans (hkg6_3) hyg6_4
        refine hK.out _ _ ?_ (fun hS5 => ?_)
        · (refine (fun hB => ⟨hB, cell_keep x0 hB, cell_keep x1 hB, cell_keep x2 hB, cell_keep x3 hB, cell_keep x4 hB, cell_keep x5 hB, cell_keep x6 hB, cell_keep x7 hB⟩ : Below (z5).heap.size (z5) _ → _) ?_; exact hkg6_4)
        clear hK K hS4
        try simp only [Act.put, List.setIfInBounds_toArray, List.set_cons_zero, List.set_cons_succ]
        refine wpAnyH_ready (rs := [24]) (by kernel_rfl) (by simp) ?_
        refine regCons rfl (fun K hK => ?_)
        go_simp
        refine (HCB.out _ (below_trans hq5 (hkg6_4))).mono ?_
        rintro e yg6_5 ⟨rfl, hyg6_5⟩
        have hkg6_5 := below_trans (hkg6_4) hyg6_5
        refine hK.out _ _ ?_ (fun hS6 => ?_)
        · (refine (fun hB => ⟨hB, cell_keep x0 hB, cell_keep x1 hB, cell_keep x2 hB, cell_keep x3 hB, cell_keep x4 hB, cell_keep x5 hB, cell_keep x6 hB, cell_keep x7 hB⟩ : Below (z5).heap.size (z5) _ → _) ?_; exact hkg6_5)
        clear hK K hS5
        try simp only [Act.put, List.setIfInBounds_toArray, List.set_cons_zero, List.set_cons_succ]
        refine regTake (i := 25) (v := .int .i64 (ca + cb)) rfl (by kernel_rfl) (by kernel_rfl) (by kernel_rfl) (fun _ _ _ h => h) (Or.inl ⟨by rfl, ?hyg6_25⟩) (by assumption) ?_
        case hyg6_25 => (intro w hSw; (try dsimp only at hSw); go_simp; (try with_reducible rfl))
        try simp only [Act.put, List.setIfInBounds_toArray, List.set_cons_zero, List.set_cons_succ]
        refine regTake (i := 26) (v := .bool true) rfl (by kernel_rfl) (by kernel_rfl) (by kernel_rfl) (fun _ _ _ h => h) (Or.inl ⟨by rfl, ?hyg6_26⟩) (by assumption) ?_
        case hyg6_26 => (intro w hSw; (try dsimp only at hSw); go_simp; (try with_reducible rfl))
        try simp only [Act.put, List.setIfInBounds_toArray, List.set_cons_zero, List.set_cons_succ]
        refine regTake (i := 27) (v := .bool true) rfl (by kernel_rfl) (by kernel_rfl) (by kernel_rfl) (fun _ _ _ h => h) (Or.inl ⟨by rfl, ?hyg6_27⟩) (by assumption) ?_
        case hyg6_27 => (intro w hSw; (try dsimp only at hSw); go_simp; (try with_reducible rfl))
        try simp only [Act.put, List.setIfInBounds_toArray, List.set_cons_zero, List.set_cons_succ]
        refine regTake (i := 28) (v := ?vg6_28) rfl (by kernel_rfl) (by kernel_rfl) (by kernel_rfl) (fun _ _ _ h => h) (Or.inl ⟨by rfl, ?hyg6_28⟩) (by assumption) ?_
        case hyg6_28 => (intro w hSw; (try dsimp only at hSw); go_simp; (try with_reducible rfl))
        try simp only [Act.put, List.setIfInBounds_toArray, List.set_cons_zero, List.set_cons_succ]
        refine wpAnyH_done (by kernel_rfl) ?_ _
        have hlg6_ := below_trans hq5 hkg6_5
        go_wp2_with fail
        go_ret
        exact ⟨rfl, below_trans HBL.out (below_trans HBX.out hlg6_)⟩
    · have e6 : ea = true := by first | exact HTA.out rfl | exact HTA.out trivial | exact HTA.out
      subst e6
      cases sb
      · go_wp2_with fail
        refine (HSM.out _ h0).mono ?_
        rintro e z7 ⟨rfl, hz7⟩
        have hq7 := below_trans h0 hz7
        replace x0 := cell_keep x0 hz7
        replace x1 := cell_keep x1 hz7
        replace x2 := cell_keep x2 hz7
        replace x3 := cell_keep x3 hz7
        replace x4 := cell_keep x4 hz7
        replace x5 := cell_keep x5 hz7
        replace x6 := cell_keep x6 hz7
        replace x7 := cell_keep x7 hz7
        go_wp2_with fail
        refine wp_region_held_drew (S := (fun w' => Below (z7).heap.size (z7) w' ∧ w'.cell? ⟨w1.heap.size, 0, none⟩ = some (.int .i64 k1) ∧ w'.cell? ⟨w1.heap.size, 1, none⟩ = some (.slice a1 n1 c1) ∧ w'.cell? ⟨w1.heap.size + 1, 0, none⟩ = some (.int .i64 k2) ∧ w'.cell? ⟨w1.heap.size + 1, 1, none⟩ = some (.slice a2 n2 c2) ∧ w'.cell? ⟨w2.heap.size, 0, none⟩ = some (.int .i64 k3) ∧ w'.cell? ⟨w2.heap.size, 1, none⟩ = some (.slice a3 n3 c3) ∧ w'.cell? ⟨w3.heap.size, 0, none⟩ = some (.int .i64 k4) ∧ w'.cell? ⟨w3.heap.size, 1, none⟩ = some (.slice a4 n4 c4))) (by kernel_rfl) ?_ (fun hS0 => ?_)
        · (refine (fun hB => ⟨hB, cell_keep x0 hB, cell_keep x1 hB, cell_keep x2 hB, cell_keep x3 hB, cell_keep x4 hB, cell_keep x5 hB, cell_keep x6 hB, cell_keep x7 hB⟩ : Below (z7).heap.size (z7) _ → _) ?_; exact below_drew _)
        refine regTake (i := 0) (v := ?vg8_0) rfl (by kernel_rfl) (by kernel_rfl) (by kernel_rfl) (fun _ _ _ h => h) (Or.inl ⟨by rfl, ?hyg8_0⟩) (by assumption) ?_
        case hyg8_0 => (intro w hSw; (try dsimp only at hSw); go_simp; (try with_reducible rfl))
        try simp only [Act.put, List.setIfInBounds_toArray, List.set_cons_zero, List.set_cons_succ]
        refine wpAnyH_ready (rs := [1]) (by kernel_rfl) (by simp) ?_
        refine regCons rfl (fun K hK => ?_)
        go_simp
        refine (HSA.out _ (below_trans hq7 (below_drew (z7)))).mono ?_
        rintro e yg8_0 ⟨rfl, hyg8_0⟩
        have hkg8_0 := below_trans (below_drew (z7)) hyg8_0
        refine hK.out _ _ ?_ (fun hS1 => ?_)
        · (refine (fun hB => ⟨hB, cell_keep x0 hB, cell_keep x1 hB, cell_keep x2 hB, cell_keep x3 hB, cell_keep x4 hB, cell_keep x5 hB, cell_keep x6 hB, cell_keep x7 hB⟩ : Below (z7).heap.size (z7) _ → _) ?_; exact hkg8_0)
        clear hK K hS0
        try simp only [Act.put, List.setIfInBounds_toArray, List.set_cons_zero, List.set_cons_succ]
        refine regTake (i := 2) (v := ?vg8_2) rfl (by kernel_rfl) (by kernel_rfl) (by kernel_rfl) (fun _ _ _ h => h) (Or.inl ⟨by rfl, ?hyg8_2⟩) (by assumption) ?_
        case hyg8_2 => (intro w hSw; (try dsimp only at hSw); go_simp; (try with_reducible rfl))
        try simp only [Act.put, List.setIfInBounds_toArray, List.set_cons_zero, List.set_cons_succ]
        refine regTake (i := 3) (v := ?vg8_3) rfl (by kernel_rfl) (by kernel_rfl) (by kernel_rfl) (fun _ _ _ h => h) (Or.inl ⟨by rfl, ?hyg8_3⟩) (by assumption) ?_
        case hyg8_3 => (intro w hSw; (try dsimp only at hSw); go_simp; (try with_reducible rfl))
        try simp only [Act.put, List.setIfInBounds_toArray, List.set_cons_zero, List.set_cons_succ]
        refine regTake (i := 4) (v := ?vg8_4) rfl (by kernel_rfl) (by kernel_rfl) (by kernel_rfl) (fun _ _ _ h => h) (Or.inl ⟨by rfl, ?hyg8_4⟩) (by assumption) ?_
        case hyg8_4 => (intro w hSw; (try dsimp only at hSw); go_simp; (try with_reducible rfl))
        try simp only [Act.put, List.setIfInBounds_toArray, List.set_cons_zero, List.set_cons_succ]
        refine regTake (i := 5) (v := ?vg8_5) rfl (by kernel_rfl) (by kernel_rfl) (by kernel_rfl) (fun _ _ _ h => h) (Or.inl ⟨by rfl, ?hyg8_5⟩) (by assumption) ?_
        case hyg8_5 => (intro w hSw; (try dsimp only at hSw); go_simp; (try with_reducible rfl))
        try simp only [Act.put, List.setIfInBounds_toArray, List.set_cons_zero, List.set_cons_succ]
        refine wpAnyH_ready (rs := [6]) (by kernel_rfl) (by simp) ?_
        refine regCons rfl (fun K hK => ?_)
        go_simp
        refine (HMA.out _ (below_trans hq7 (hkg8_0))).mono ?_
        rintro e yg8_1 ⟨rfl, hyg8_1⟩
        have hkg8_1 := below_trans (hkg8_0) hyg8_1
        refine hK.out _ _ ?_ (fun hS2 => ?_)
        · (refine (fun hB => ⟨hB, cell_keep x0 hB, cell_keep x1 hB, cell_keep x2 hB, cell_keep x3 hB, cell_keep x4 hB, cell_keep x5 hB, cell_keep x6 hB, cell_keep x7 hB⟩ : Below (z7).heap.size (z7) _ → _) ?_; exact hkg8_1)
        clear hK K hS1
        try simp only [Act.put, List.setIfInBounds_toArray, List.set_cons_zero, List.set_cons_succ]
        refine regTake (i := 7) (v := .bool true) rfl (by kernel_rfl) (by kernel_rfl) (by kernel_rfl) (fun _ _ _ h => h) (Or.inl ⟨by rfl, ?hyg8_7⟩) (by assumption) ?_
        case hyg8_7 => (intro w hSw; (try dsimp only at hSw); go_simp; (try with_reducible rfl))
        try simp only [Act.put, List.setIfInBounds_toArray, List.set_cons_zero, List.set_cons_succ]
        refine regTake (i := 8) (v := ?vg8_8) rfl (by kernel_rfl) (by kernel_rfl) (by kernel_rfl) (fun _ _ _ h => h) (Or.inl ⟨by rfl, ?hyg8_8⟩) (by assumption) ?_
        case hyg8_8 => (intro w hSw; (try dsimp only at hSw); go_simp; (try with_reducible rfl))
        try simp only [Act.put, List.setIfInBounds_toArray, List.set_cons_zero, List.set_cons_succ]
        refine regTake (i := 9) (v := ?vg8_9) rfl (by kernel_rfl) (by kernel_rfl) (by kernel_rfl) (fun _ _ _ h => h) (Or.inl ⟨by rfl, ?hyg8_9⟩) (by assumption) ?_
        case hyg8_9 => (intro w hSw; (try dsimp only at hSw); go_simp; (try with_reducible rfl))
        try simp only [Act.put, List.setIfInBounds_toArray, List.set_cons_zero, List.set_cons_succ]
        refine wpAnyH_ready (rs := [10]) (by kernel_rfl) (by simp) ?_
        refine regCons rfl (fun K hK => ?_)
        go_simp
        refine (HSB.out _ (below_trans hq7 (hkg8_1))).mono ?_
        rintro e yg8_2 ⟨rfl, hyg8_2⟩
        have hkg8_2 := below_trans (hkg8_1) hyg8_2
        refine hK.out _ _ ?_ (fun hS3 => ?_)
        · (refine (fun hB => ⟨hB, cell_keep x0 hB, cell_keep x1 hB, cell_keep x2 hB, cell_keep x3 hB, cell_keep x4 hB, cell_keep x5 hB, cell_keep x6 hB, cell_keep x7 hB⟩ : Below (z7).heap.size (z7) _ → _) ?_; exact hkg8_2)
        clear hK K hS2
        try simp only [Act.put, List.setIfInBounds_toArray, List.set_cons_zero, List.set_cons_succ]
        refine regTake (i := 11) (v := ?vg8_11) rfl (by kernel_rfl) (by kernel_rfl) (by kernel_rfl) (fun _ _ _ h => h) (Or.inl ⟨by rfl, ?hyg8_11⟩) (by assumption) ?_
        case hyg8_11 => (intro w hSw; (try dsimp only at hSw); go_simp; (try with_reducible rfl))
        try simp only [Act.put, List.setIfInBounds_toArray, List.set_cons_zero, List.set_cons_succ]
        refine regTake (i := 12) (v := ?vg8_12) rfl (by kernel_rfl) (by kernel_rfl) (by kernel_rfl) (fun _ _ _ h => h) (Or.inl ⟨by rfl, ?hyg8_12⟩) (by assumption) ?_
        case hyg8_12 => (intro w hSw; (try dsimp only at hSw); go_simp; (try with_reducible rfl))
        try simp only [Act.put, List.setIfInBounds_toArray, List.set_cons_zero, List.set_cons_succ]
        refine regTake (i := 13) (v := undef) rfl (by kernel_rfl) (by kernel_rfl) (by kernel_rfl) (fun _ _ _ h => h) (Or.inr ⟨by rfl, rfl⟩) (by assumption) ?_
        try simp only [Act.put, List.setIfInBounds_toArray, List.set_cons_zero, List.set_cons_succ]
        refine regTake (i := 14) (v := undef) rfl (by kernel_rfl) (by kernel_rfl) (by kernel_rfl) (fun _ _ _ h => h) (Or.inr ⟨by rfl, rfl⟩) (by assumption) ?_
        try simp only [Act.put, List.setIfInBounds_toArray, List.set_cons_zero, List.set_cons_succ]
        refine regTake (i := 15) (v := undef) rfl (by kernel_rfl) (by kernel_rfl) (by kernel_rfl) (fun _ _ _ h => h) (Or.inr ⟨by rfl, rfl⟩) (by assumption) ?_
        try simp only [Act.put, List.setIfInBounds_toArray, List.set_cons_zero, List.set_cons_succ]
        refine regTake (i := 16) (v := .bool true) rfl (by kernel_rfl) (by kernel_rfl) (by kernel_rfl) (fun _ _ _ h => h) (Or.inl ⟨by rfl, ?hyg8_16⟩) (by assumption) ?_
        case hyg8_16 => (intro w hSw; (try dsimp only at hSw); go_simp; (try with_reducible rfl))
        try simp only [Act.put, List.setIfInBounds_toArray, List.set_cons_zero, List.set_cons_succ]
        refine regTake (i := 17) (v := .bool true) rfl (by kernel_rfl) (by kernel_rfl) (by kernel_rfl) (fun _ _ _ h => h) (Or.inl ⟨by rfl, ?hyg8_17⟩) (by assumption) ?_
        case hyg8_17 => (intro w hSw; (try dsimp only at hSw); go_simp; (try with_reducible rfl))
        try simp only [Act.put, List.setIfInBounds_toArray, List.set_cons_zero, List.set_cons_succ]
        refine regTake (i := 18) (v := ?vg8_18) rfl (by kernel_rfl) (by kernel_rfl) (by kernel_rfl) (fun _ _ _ h => h) (Or.inl ⟨by rfl, ?hyg8_18⟩) (by assumption) ?_
        case hyg8_18 => (intro w hSw; (try dsimp only at hSw); go_simp; (try with_reducible rfl))
        try simp only [Act.put, List.setIfInBounds_toArray, List.set_cons_zero, List.set_cons_succ]
        refine regTake (i := 19) (v := ?vg8_19) rfl (by kernel_rfl) (by kernel_rfl) (by kernel_rfl) (fun _ _ _ h => h) (Or.inl ⟨by rfl, ?hyg8_19⟩) (by assumption) ?_
        case hyg8_19 => (intro w hSw; (try dsimp only at hSw); go_simp; (try with_reducible rfl))
        try simp only [Act.put, List.setIfInBounds_toArray, List.set_cons_zero, List.set_cons_succ]
        refine regTake (i := 21) (v := ?vg8_21) rfl (by kernel_rfl) (by kernel_rfl) (by kernel_rfl) (fun _ _ _ h => h) (Or.inl ⟨by rfl, ?hyg8_21⟩) (by assumption) ?_
        case hyg8_21 => (intro w hSw; (try dsimp only at hSw); go_simp; (try with_reducible rfl))
        try simp only [Act.put, List.setIfInBounds_toArray, List.set_cons_zero, List.set_cons_succ]
        refine regTake (i := 23) (v := ?vg8_23) rfl (by kernel_rfl) (by kernel_rfl) (by kernel_rfl) (fun _ _ _ h => h) (Or.inl ⟨by rfl, ?hyg8_23⟩) (by assumption) ?_
        case hyg8_23 => (intro w hSw; (try dsimp only at hSw); go_simp; (try with_reducible rfl))
        try simp only [Act.put, List.setIfInBounds_toArray, List.set_cons_zero, List.set_cons_succ]
        refine wpAnyH_ready (rs := [20]) (by kernel_rfl) (by simp) ?_
        refine regCons rfl (fun K hK => ?_)
        go_simp
        refine (HCM.out _ (below_trans hq7 (hkg8_2))).mono ?_
        rintro e yg8_3 ⟨rfl, hyg8_3⟩
        have hkg8_3 := below_trans (hkg8_2) hyg8_3
        refine hK.out _ _ ?_ (fun hS4 => ?_)
        · (refine (fun hB => ⟨hB, cell_keep x0 hB, cell_keep x1 hB, cell_keep x2 hB, cell_keep x3 hB, cell_keep x4 hB, cell_keep x5 hB, cell_keep x6 hB, cell_keep x7 hB⟩ : Below (z7).heap.size (z7) _ → _) ?_; exact hkg8_3)
        clear hK K hS3
        try simp only [Act.put, List.setIfInBounds_toArray, List.set_cons_zero, List.set_cons_succ]
        refine wpAnyH_ready (rs := [22]) (by kernel_rfl) (by simp) ?_
        refine regCons rfl (fun K hK => ?_)
        go_simp
        refine (HCA.out _ (below_trans hq7 (hkg8_3))).mono ?_
        rintro e yg8_4 ⟨rfl, hyg8_4⟩
        have hkg8_4 := below_trans (hkg8_3) hyg8_4
        refine hK.out _ _ ?_ (fun hS5 => ?_)
        · (refine (fun hB => ⟨hB, cell_keep x0 hB, cell_keep x1 hB, cell_keep x2 hB, cell_keep x3 hB, cell_keep x4 hB, cell_keep x5 hB, cell_keep x6 hB, cell_keep x7 hB⟩ : Below (z7).heap.size (z7) _ → _) ?_; exact hkg8_4)
        clear hK K hS4
        try simp only [Act.put, List.setIfInBounds_toArray, List.set_cons_zero, List.set_cons_succ]
        refine wpAnyH_ready (rs := [24]) (by kernel_rfl) (by simp) ?_
        refine regCons rfl (fun K hK => ?_)
        go_simp
        refine (HCB.out _ (below_trans hq7 (hkg8_4))).mono ?_
        rintro e yg8_5 ⟨rfl, hyg8_5⟩
        have hkg8_5 := below_trans (hkg8_4) hyg8_5
        refine hK.out _ _ ?_ (fun hS6 => ?_)
        · (refine (fun hB => ⟨hB, cell_keep x0 hB, cell_keep x1 hB, cell_keep x2 hB, cell_keep x3 hB, cell_keep x4 hB, cell_keep x5 hB, cell_keep x6 hB, cell_keep x7 hB⟩ : Below (z7).heap.size (z7) _ → _) ?_; exact hkg8_5)
        clear hK K hS5
        try simp only [Act.put, List.setIfInBounds_toArray, List.set_cons_zero, List.set_cons_succ]
        refine regTake (i := 25) (v := .int .i64 (ca + cb)) rfl (by kernel_rfl) (by kernel_rfl) (by kernel_rfl) (fun _ _ _ h => h) (Or.inl ⟨by rfl, ?hyg8_25⟩) (by assumption) ?_
        case hyg8_25 => (intro w hSw; (try dsimp only at hSw); go_simp; (try with_reducible rfl))
        try simp only [Act.put, List.setIfInBounds_toArray, List.set_cons_zero, List.set_cons_succ]
        refine regTake (i := 26) (v := .bool true) rfl (by kernel_rfl) (by kernel_rfl) (by kernel_rfl) (fun _ _ _ h => h) (Or.inl ⟨by rfl, ?hyg8_26⟩) (by assumption) ?_
        case hyg8_26 => (intro w hSw; (try dsimp only at hSw); go_simp; (try with_reducible rfl))
        try simp only [Act.put, List.setIfInBounds_toArray, List.set_cons_zero, List.set_cons_succ]
        refine regTake (i := 27) (v := .bool true) rfl (by kernel_rfl) (by kernel_rfl) (by kernel_rfl) (fun _ _ _ h => h) (Or.inl ⟨by rfl, ?hyg8_27⟩) (by assumption) ?_
        case hyg8_27 => (intro w hSw; (try dsimp only at hSw); go_simp; (try with_reducible rfl))
        try simp only [Act.put, List.setIfInBounds_toArray, List.set_cons_zero, List.set_cons_succ]
        refine regTake (i := 28) (v := ?vg8_28) rfl (by kernel_rfl) (by kernel_rfl) (by kernel_rfl) (fun _ _ _ h => h) (Or.inl ⟨by rfl, ?hyg8_28⟩) (by assumption) ?_
        case hyg8_28 => (intro w hSw; (try dsimp only at hSw); go_simp; (try with_reducible rfl))
        try simp only [Act.put, List.setIfInBounds_toArray, List.set_cons_zero, List.set_cons_succ]
        refine wpAnyH_done (by kernel_rfl) ?_ _
        have hlg8_ := below_trans hq7 hkg8_5
        go_wp2_with fail
        go_ret
        exact ⟨rfl, below_trans HBL.out (below_trans HBX.out hlg8_)⟩
      · have e7 : eb = true := by first | exact HTB.out rfl | exact HTB.out trivial | exact HTB.out
        subst e7
        go_wp2_with fail
        refine (HSM.out _ h0).mono ?_
        rintro e z9 ⟨rfl, hz9⟩
        have hq9 := below_trans h0 hz9
        replace x0 := cell_keep x0 hz9
        replace x1 := cell_keep x1 hz9
        replace x2 := cell_keep x2 hz9
        replace x3 := cell_keep x3 hz9
        replace x4 := cell_keep x4 hz9
        replace x5 := cell_keep x5 hz9
        replace x6 := cell_keep x6 hz9
        replace x7 := cell_keep x7 hz9
        go_wp2_with fail
        refine wp_region_held_drew (S := (fun w' => Below (z9).heap.size (z9) w' ∧ w'.cell? ⟨w1.heap.size, 0, none⟩ = some (.int .i64 k1) ∧ w'.cell? ⟨w1.heap.size, 1, none⟩ = some (.slice a1 n1 c1) ∧ w'.cell? ⟨w1.heap.size + 1, 0, none⟩ = some (.int .i64 k2) ∧ w'.cell? ⟨w1.heap.size + 1, 1, none⟩ = some (.slice a2 n2 c2) ∧ w'.cell? ⟨w2.heap.size, 0, none⟩ = some (.int .i64 k3) ∧ w'.cell? ⟨w2.heap.size, 1, none⟩ = some (.slice a3 n3 c3) ∧ w'.cell? ⟨w3.heap.size, 0, none⟩ = some (.int .i64 k4) ∧ w'.cell? ⟨w3.heap.size, 1, none⟩ = some (.slice a4 n4 c4))) (by kernel_rfl) ?_ (fun hS0 => ?_)
        · (refine (fun hB => ⟨hB, cell_keep x0 hB, cell_keep x1 hB, cell_keep x2 hB, cell_keep x3 hB, cell_keep x4 hB, cell_keep x5 hB, cell_keep x6 hB, cell_keep x7 hB⟩ : Below (z9).heap.size (z9) _ → _) ?_; exact below_drew _)
        refine regTake (i := 0) (v := ?vg10_0) rfl (by kernel_rfl) (by kernel_rfl) (by kernel_rfl) (fun _ _ _ h => h) (Or.inl ⟨by rfl, ?hyg10_0⟩) (by assumption) ?_
        case hyg10_0 => (intro w hSw; (try dsimp only at hSw); go_simp; (try with_reducible rfl))
        try simp only [Act.put, List.setIfInBounds_toArray, List.set_cons_zero, List.set_cons_succ]
        refine wpAnyH_ready (rs := [1]) (by kernel_rfl) (by simp) ?_
        refine regCons rfl (fun K hK => ?_)
        go_simp
        refine (HSA.out _ (below_trans hq9 (below_drew (z9)))).mono ?_
        rintro e yg10_0 ⟨rfl, hyg10_0⟩
        have hkg10_0 := below_trans (below_drew (z9)) hyg10_0
        refine hK.out _ _ ?_ (fun hS1 => ?_)
        · (refine (fun hB => ⟨hB, cell_keep x0 hB, cell_keep x1 hB, cell_keep x2 hB, cell_keep x3 hB, cell_keep x4 hB, cell_keep x5 hB, cell_keep x6 hB, cell_keep x7 hB⟩ : Below (z9).heap.size (z9) _ → _) ?_; exact hkg10_0)
        clear hK K hS0
        try simp only [Act.put, List.setIfInBounds_toArray, List.set_cons_zero, List.set_cons_succ]
        refine regTake (i := 2) (v := ?vg10_2) rfl (by kernel_rfl) (by kernel_rfl) (by kernel_rfl) (fun _ _ _ h => h) (Or.inl ⟨by rfl, ?hyg10_2⟩) (by assumption) ?_
        case hyg10_2 => (intro w hSw; (try dsimp only at hSw); go_simp; (try with_reducible rfl))
        try simp only [Act.put, List.setIfInBounds_toArray, List.set_cons_zero, List.set_cons_succ]
        refine regTake (i := 3) (v := ?vg10_3) rfl (by kernel_rfl) (by kernel_rfl) (by kernel_rfl) (fun _ _ _ h => h) (Or.inl ⟨by rfl, ?hyg10_3⟩) (by assumption) ?_
        case hyg10_3 => (intro w hSw; (try dsimp only at hSw); go_simp; (try with_reducible rfl))
        try simp only [Act.put, List.setIfInBounds_toArray, List.set_cons_zero, List.set_cons_succ]
        refine regTake (i := 4) (v := ?vg10_4) rfl (by kernel_rfl) (by kernel_rfl) (by kernel_rfl) (fun _ _ _ h => h) (Or.inl ⟨by rfl, ?hyg10_4⟩) (by assumption) ?_
        case hyg10_4 => (intro w hSw; (try dsimp only at hSw); go_simp; (try with_reducible rfl))
        try simp only [Act.put, List.setIfInBounds_toArray, List.set_cons_zero, List.set_cons_succ]
        refine regTake (i := 5) (v := ?vg10_5) rfl (by kernel_rfl) (by kernel_rfl) (by kernel_rfl) (fun _ _ _ h => h) (Or.inl ⟨by rfl, ?hyg10_5⟩) (by assumption) ?_
        case hyg10_5 => (intro w hSw; (try dsimp only at hSw); go_simp; (try with_reducible rfl))
        try simp only [Act.put, List.setIfInBounds_toArray, List.set_cons_zero, List.set_cons_succ]
        refine wpAnyH_ready (rs := [6]) (by kernel_rfl) (by simp) ?_
        refine regCons rfl (fun K hK => ?_)
        go_simp
        refine (HMA.out _ (below_trans hq9 (hkg10_0))).mono ?_
        rintro e yg10_1 ⟨rfl, hyg10_1⟩
        have hkg10_1 := below_trans (hkg10_0) hyg10_1
        refine hK.out _ _ ?_ (fun hS2 => ?_)
        · (refine (fun hB => ⟨hB, cell_keep x0 hB, cell_keep x1 hB, cell_keep x2 hB, cell_keep x3 hB, cell_keep x4 hB, cell_keep x5 hB, cell_keep x6 hB, cell_keep x7 hB⟩ : Below (z9).heap.size (z9) _ → _) ?_; exact hkg10_1)
        clear hK K hS1
        try simp only [Act.put, List.setIfInBounds_toArray, List.set_cons_zero, List.set_cons_succ]
        refine regTake (i := 7) (v := .bool true) rfl (by kernel_rfl) (by kernel_rfl) (by kernel_rfl) (fun _ _ _ h => h) (Or.inl ⟨by rfl, ?hyg10_7⟩) (by assumption) ?_
        case hyg10_7 => (intro w hSw; (try dsimp only at hSw); go_simp; (try with_reducible rfl))
        try simp only [Act.put, List.setIfInBounds_toArray, List.set_cons_zero, List.set_cons_succ]
        refine regTake (i := 8) (v := ?vg10_8) rfl (by kernel_rfl) (by kernel_rfl) (by kernel_rfl) (fun _ _ _ h => h) (Or.inl ⟨by rfl, ?hyg10_8⟩) (by assumption) ?_
        case hyg10_8 => (intro w hSw; (try dsimp only at hSw); go_simp; (try with_reducible rfl))
        try simp only [Act.put, List.setIfInBounds_toArray, List.set_cons_zero, List.set_cons_succ]
        refine regTake (i := 9) (v := ?vg10_9) rfl (by kernel_rfl) (by kernel_rfl) (by kernel_rfl) (fun _ _ _ h => h) (Or.inl ⟨by rfl, ?hyg10_9⟩) (by assumption) ?_
        case hyg10_9 => (intro w hSw; (try dsimp only at hSw); go_simp; (try with_reducible rfl))
        try simp only [Act.put, List.setIfInBounds_toArray, List.set_cons_zero, List.set_cons_succ]
        refine wpAnyH_ready (rs := [10]) (by kernel_rfl) (by simp) ?_
        refine regCons rfl (fun K hK => ?_)
        go_simp
        refine (HSB.out _ (below_trans hq9 (hkg10_1))).mono ?_
        rintro e yg10_2 ⟨rfl, hyg10_2⟩
        have hkg10_2 := below_trans (hkg10_1) hyg10_2
        refine hK.out _ _ ?_ (fun hS3 => ?_)
        · (refine (fun hB => ⟨hB, cell_keep x0 hB, cell_keep x1 hB, cell_keep x2 hB, cell_keep x3 hB, cell_keep x4 hB, cell_keep x5 hB, cell_keep x6 hB, cell_keep x7 hB⟩ : Below (z9).heap.size (z9) _ → _) ?_; exact hkg10_2)
        clear hK K hS2
        try simp only [Act.put, List.setIfInBounds_toArray, List.set_cons_zero, List.set_cons_succ]
        refine regTake (i := 11) (v := ?vg10_11) rfl (by kernel_rfl) (by kernel_rfl) (by kernel_rfl) (fun _ _ _ h => h) (Or.inl ⟨by rfl, ?hyg10_11⟩) (by assumption) ?_
        case hyg10_11 => (intro w hSw; (try dsimp only at hSw); go_simp; (try with_reducible rfl))
        try simp only [Act.put, List.setIfInBounds_toArray, List.set_cons_zero, List.set_cons_succ]
        refine regTake (i := 12) (v := ?vg10_12) rfl (by kernel_rfl) (by kernel_rfl) (by kernel_rfl) (fun _ _ _ h => h) (Or.inl ⟨by rfl, ?hyg10_12⟩) (by assumption) ?_
        case hyg10_12 => (intro w hSw; (try dsimp only at hSw); go_simp; (try with_reducible rfl))
        try simp only [Act.put, List.setIfInBounds_toArray, List.set_cons_zero, List.set_cons_succ]
        refine regTake (i := 13) (v := ?vg10_13) rfl (by kernel_rfl) (by kernel_rfl) (by kernel_rfl) (fun _ _ _ h => h) (Or.inl ⟨by rfl, ?hyg10_13⟩) (by assumption) ?_
        case hyg10_13 => (intro w hSw; (try dsimp only at hSw); go_simp; (try with_reducible rfl))
        try simp only [Act.put, List.setIfInBounds_toArray, List.set_cons_zero, List.set_cons_succ]
        refine regTake (i := 14) (v := ?vg10_14) rfl (by kernel_rfl) (by kernel_rfl) (by kernel_rfl) (fun _ _ _ h => h) (Or.inl ⟨by rfl, ?hyg10_14⟩) (by assumption) ?_
        case hyg10_14 => (intro w hSw; (try dsimp only at hSw); go_simp; (try with_reducible rfl))
        try simp only [Act.put, List.setIfInBounds_toArray, List.set_cons_zero, List.set_cons_succ]
        refine wpAnyH_ready (rs := [15]) (by kernel_rfl) (by simp) ?_
        refine regCons rfl (fun K hK => ?_)
        go_simp
        refine (HMB.out _ (below_trans hq9 (hkg10_2))).mono ?_
        rintro e yg10_3 ⟨rfl, hyg10_3⟩
        have hkg10_3 := below_trans (hkg10_2) hyg10_3
        refine hK.out _ _ ?_ (fun hS4 => ?_)
        · (refine (fun hB => ⟨hB, cell_keep x0 hB, cell_keep x1 hB, cell_keep x2 hB, cell_keep x3 hB, cell_keep x4 hB, cell_keep x5 hB, cell_keep x6 hB, cell_keep x7 hB⟩ : Below (z9).heap.size (z9) _ → _) ?_; exact hkg10_3)
        clear hK K hS3
        try simp only [Act.put, List.setIfInBounds_toArray, List.set_cons_zero, List.set_cons_succ]
        refine regTake (i := 16) (v := .bool true) rfl (by kernel_rfl) (by kernel_rfl) (by kernel_rfl) (fun _ _ _ h => h) (Or.inl ⟨by rfl, ?hyg10_16⟩) (by assumption) ?_
        case hyg10_16 => (intro w hSw; (try dsimp only at hSw); go_simp; (try with_reducible rfl))
        try simp only [Act.put, List.setIfInBounds_toArray, List.set_cons_zero, List.set_cons_succ]
        refine regTake (i := 17) (v := .bool true) rfl (by kernel_rfl) (by kernel_rfl) (by kernel_rfl) (fun _ _ _ h => h) (Or.inl ⟨by rfl, ?hyg10_17⟩) (by assumption) ?_
        case hyg10_17 => (intro w hSw; (try dsimp only at hSw); go_simp; (try with_reducible rfl))
        try simp only [Act.put, List.setIfInBounds_toArray, List.set_cons_zero, List.set_cons_succ]
        refine regTake (i := 18) (v := ?vg10_18) rfl (by kernel_rfl) (by kernel_rfl) (by kernel_rfl) (fun _ _ _ h => h) (Or.inl ⟨by rfl, ?hyg10_18⟩) (by assumption) ?_
        case hyg10_18 => (intro w hSw; (try dsimp only at hSw); go_simp; (try with_reducible rfl))
        try simp only [Act.put, List.setIfInBounds_toArray, List.set_cons_zero, List.set_cons_succ]
        refine regTake (i := 19) (v := ?vg10_19) rfl (by kernel_rfl) (by kernel_rfl) (by kernel_rfl) (fun _ _ _ h => h) (Or.inl ⟨by rfl, ?hyg10_19⟩) (by assumption) ?_
        case hyg10_19 => (intro w hSw; (try dsimp only at hSw); go_simp; (try with_reducible rfl))
        try simp only [Act.put, List.setIfInBounds_toArray, List.set_cons_zero, List.set_cons_succ]
        refine regTake (i := 21) (v := ?vg10_21) rfl (by kernel_rfl) (by kernel_rfl) (by kernel_rfl) (fun _ _ _ h => h) (Or.inl ⟨by rfl, ?hyg10_21⟩) (by assumption) ?_
        case hyg10_21 => (intro w hSw; (try dsimp only at hSw); go_simp; (try with_reducible rfl))
        try simp only [Act.put, List.setIfInBounds_toArray, List.set_cons_zero, List.set_cons_succ]
        refine regTake (i := 23) (v := ?vg10_23) rfl (by kernel_rfl) (by kernel_rfl) (by kernel_rfl) (fun _ _ _ h => h) (Or.inl ⟨by rfl, ?hyg10_23⟩) (by assumption) ?_
        case hyg10_23 => (intro w hSw; (try dsimp only at hSw); go_simp; (try with_reducible rfl))
        try simp only [Act.put, List.setIfInBounds_toArray, List.set_cons_zero, List.set_cons_succ]
        refine wpAnyH_ready (rs := [20]) (by kernel_rfl) (by simp) ?_
        refine regCons rfl (fun K hK => ?_)
        go_simp
        refine (HCM.out _ (below_trans hq9 (hkg10_3))).mono ?_
        rintro e yg10_4 ⟨rfl, hyg10_4⟩
        have hkg10_4 := below_trans (hkg10_3) hyg10_4
        refine hK.out _ _ ?_ (fun hS5 => ?_)
        · (refine (fun hB => ⟨hB, cell_keep x0 hB, cell_keep x1 hB, cell_keep x2 hB, cell_keep x3 hB, cell_keep x4 hB, cell_keep x5 hB, cell_keep x6 hB, cell_keep x7 hB⟩ : Below (z9).heap.size (z9) _ → _) ?_; exact hkg10_4)
        clear hK K hS4
        try simp only [Act.put, List.setIfInBounds_toArray, List.set_cons_zero, List.set_cons_succ]
        refine wpAnyH_ready (rs := [22]) (by kernel_rfl) (by simp) ?_
        refine regCons rfl (fun K hK => ?_)
        go_simp
        refine (HCA.out _ (below_trans hq9 (hkg10_4))).mono ?_
        rintro e yg10_5 ⟨rfl, hyg10_5⟩
        have hkg10_5 := below_trans (hkg10_4) hyg10_5
        refine hK.out _ _ ?_ (fun hS6 => ?_)
        · (refine (fun hB => ⟨hB, cell_keep x0 hB, cell_keep x1 hB, cell_keep x2 hB, cell_keep x3 hB, cell_keep x4 hB, cell_keep x5 hB, cell_keep x6 hB, cell_keep x7 hB⟩ : Below (z9).heap.size (z9) _ → _) ?_; exact hkg10_5)
        clear hK K hS5
        try simp only [Act.put, List.setIfInBounds_toArray, List.set_cons_zero, List.set_cons_succ]
        refine wpAnyH_ready (rs := [24]) (by kernel_rfl) (by simp) ?_
        refine regCons rfl (fun K hK => ?_)
        go_simp
        refine (HCB.out _ (below_trans hq9 (hkg10_5))).mono ?_
        rintro e yg10_6 ⟨rfl, hyg10_6⟩
        have hkg10_6 := below_trans (hkg10_5) hyg10_6
        refine hK.out _ _ ?_ (fun hS7 => ?_)
        · (refine (fun hB => ⟨hB, cell_keep x0 hB, cell_keep x1 hB, cell_keep x2 hB, cell_keep x3 hB, cell_keep x4 hB, cell_keep x5 hB, cell_keep x6 hB, cell_keep x7 hB⟩ : Below (z9).heap.size (z9) _ → _) ?_; exact hkg10_6)
        clear hK K hS6
        try simp only [Act.put, List.setIfInBounds_toArray, List.set_cons_zero, List.set_cons_succ]
        refine regTake (i := 25) (v := .int .i64 (ca + cb)) rfl (by kernel_rfl) (by kernel_rfl) (by kernel_rfl) (fun _ _ _ h => h) (Or.inl ⟨by rfl, ?hyg10_25⟩) (by assumption) ?_
        case hyg10_25 => (intro w hSw; (try dsimp only at hSw); go_simp; (try with_reducible rfl))
        try simp only [Act.put, List.setIfInBounds_toArray, List.set_cons_zero, List.set_cons_succ]
        refine regTake (i := 26) (v := .bool true) rfl (by kernel_rfl) (by kernel_rfl) (by kernel_rfl) (fun _ _ _ h => h) (Or.inl ⟨by rfl, ?hyg10_26⟩) (by assumption) ?_
        case hyg10_26 => (intro w hSw; (try dsimp only at hSw); go_simp; (try with_reducible rfl))
        try simp only [Act.put, List.setIfInBounds_toArray, List.set_cons_zero, List.set_cons_succ]
        refine regTake (i := 27) (v := .bool true) rfl (by kernel_rfl) (by kernel_rfl) (by kernel_rfl) (fun _ _ _ h => h) (Or.inl ⟨by rfl, ?hyg10_27⟩) (by assumption) ?_
        case hyg10_27 => (intro w hSw; (try dsimp only at hSw); go_simp; (try with_reducible rfl))
        try simp only [Act.put, List.setIfInBounds_toArray, List.set_cons_zero, List.set_cons_succ]
        refine regTake (i := 28) (v := ?vg10_28) rfl (by kernel_rfl) (by kernel_rfl) (by kernel_rfl) (fun _ _ _ h => h) (Or.inl ⟨by rfl, ?hyg10_28⟩) (by assumption) ?_
        case hyg10_28 => (intro w hSw; (try dsimp only at hSw); go_simp; (try with_reducible rfl))
        try simp only [Act.put, List.setIfInBounds_toArray, List.set_cons_zero, List.set_cons_succ]
        refine wpAnyH_done (by kernel_rfl) ?_ _
        have hlg10_ := below_trans hq9 hkg10_6
        go_wp2_with fail
        go_ret
        exact ⟨rfl, below_trans HBL.out (below_trans HBX.out hlg10_)⟩
end Go.Proofs.Ytlapooclongfoaa
