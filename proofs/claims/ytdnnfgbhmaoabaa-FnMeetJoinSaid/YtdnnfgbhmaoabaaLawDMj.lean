/- The law on MeetJoin: it returns true and writes nothing that was there. -/
import Derived.Test.YtdnnfgbhmaoabaaDr8
import Derived.Test.YtdnnfgbhmaoabaaMjP
import Derived.Test.YtdnnfgbhmaoabaaReg
import Derived.Test.YtdnnfgbhmaoabaaRaw
import Derived.Test.YtdnnfgbhmaoabaaDJn
import Derived.Test.YtdnnfgbhmaoabaaMeetI
import Derived.Test.YtdnnfgbhmaoabaaJoinT
import Derived.Deep.RegionHeld3
namespace Go.Proofs.Ytdnnfgbhmaoabaa
open Go.RowKit

set_option linter.unusedSimpArgs false in
set_option linter.unusedVariables false in
set_option maxRecDepth 100000 in
set_option maxHeartbeats 8000000 in
theorem lawDMj (a : Option Addr) (n cap : Nat) (w : World) (hB : BytA w a n) (hn : n ≤ cap) (hm : cap ≤ maxLen) :
    Calls Try.prog 3 #[.slice a n cap] w fun e w' => e = .returned (.bool true) ∧ Below w.heap.size w w' := by
  by_cases hl : (n : Int) > 1048576
  · clear hB
    go_enter Try.func3, Try.ntmps3
    go_wp2_with fail
    go_ret
    exact ⟨rfl, Below.refl _ _⟩
  have HD := hid (drawJoin_any a n cap w hB hn hm)
  clear hB
  go_enter Try.func3, Try.ntmps3
  go_wp2_with fail
  refine HD.out.mono ?_
  rintro e w1 ⟨t1, t2, v1, v2, f1, f2, rfl, hsm, h1, h2, g1, g2, hb⟩
  obtain ⟨k1, n1, a1, c1, rfl⟩ := h1.agg
  obtain ⟨k2, n2, a2, c2, rfl⟩ := h2.agg
  have hal : Below w1.heap.size w1 ((w1.alloc (Obj.cells #[.int .i64 k1, .slice a1 n1 c1] 25)).alloc (Obj.cells #[.int .i64 k2, .slice a2 n2 c2] 25)) := ((Below.refl _ _).alloc (Nat.le_refl _) _).alloc (by simp) _
  have HSZ := hid hsm
  have HR1 := hid (show ∀ x ∈ f1, Raw ((w1.alloc (Obj.cells #[.int .i64 k1, .slice a1 n1 c1] 25)).alloc (Obj.cells #[.int .i64 k2, .slice a2 n2 c2] 25)) x from fun x hx => Raw.below ⟨h1.laid x hx, (g1 x hx).2⟩ hal)
  have HR2 := hid (show ∀ x ∈ f2, Raw ((w1.alloc (Obj.cells #[.int .i64 k1, .slice a1 n1 c1] 25)).alloc (Obj.cells #[.int .i64 k2, .slice a2 n2 c2] 25)) x from fun x hx => Raw.below ⟨h2.laid x hx, (g2 x hx).2⟩ hal)
  have HBL := hid (below_trans hb hal)
  have H1 := hid (h1.below hal)
  have H2 := hid (h2.below hal)
  have HM := hid (fun (W : World) (h : Below (((w1.alloc (Obj.cells #[.int .i64 k1, .slice a1 n1 c1] 25)).alloc (Obj.cells #[.int .i64 k2, .slice a2 n2 c2] 25))).heap.size ((w1.alloc (Obj.cells #[.int .i64 k1, .slice a1 n1 c1] 25)).alloc (Obj.cells #[.int .i64 k2, .slice a2 n2 c2] 25)) W) => implJoinTypes t1 t2 _ _ _ _ W (H1.out.below h) (H2.out.below h) (by have := HSZ.out.1; omega) (by have := HSZ.out.2; omega))
  have HW := hid (fun (W : World) (h : Below (((w1.alloc (Obj.cells #[.int .i64 k1, .slice a1 n1 c1] 25)).alloc (Obj.cells #[.int .i64 k2, .slice a2 n2 c2] 25))).heap.size ((w1.alloc (Obj.cells #[.int .i64 k1, .slice a1 n1 c1] 25)).alloc (Obj.cells #[.int .i64 k2, .slice a2 n2 c2] 25)) W) => specJoinTypes t1 t2 _ _ _ _ W (H1.out.below h) (H2.out.below h) (by have := HSZ.out.1; omega) (by have := HSZ.out.2; omega))
  obtain ⟨x0, x1, x2, x3⟩ := box_cells2 (Below.refl (((w1.alloc (Obj.cells #[.int .i64 k1, .slice a1 n1 c1] 25)).alloc (Obj.cells #[.int .i64 k2, .slice a2 n2 c2] 25))).heap.size ((w1.alloc (Obj.cells #[.int .i64 k1, .slice a1 n1 c1] 25)).alloc (Obj.cells #[.int .i64 k2, .slice a2 n2 c2] 25)))
  have h0 := Below.refl (((w1.alloc (Obj.cells #[.int .i64 k1, .slice a1 n1 c1] 25)).alloc (Obj.cells #[.int .i64 k2, .slice a2 n2 c2] 25))).heap.size ((w1.alloc (Obj.cells #[.int .i64 k1, .slice a1 n1 c1] 25)).alloc (Obj.cells #[.int .i64 k2, .slice a2 n2 c2] 25))
  clear h1 h2 hb hal g1 g2 hsm HD
  go_wp2_with fail
  refine (HM.out _ h0).mono ?_
  rintro e w2 ⟨vm, f3, rfl, hatm, hfm, hb2⟩
  obtain ⟨k3, n3, a3, c3, rfl⟩ := hatm.agg
  have hal : Below w2.heap.size w2 (w2.alloc (Obj.cells #[.int .i64 k3, .slice a3 n3 c3] 25)) := (Below.refl _ _).alloc (Nat.le_refl _) _
  have hbM := below_trans hb2 hal
  have HBM := hid hbM
  have HR3 := hid (show ∀ x ∈ f3, Raw (w2.alloc (Obj.cells #[.int .i64 k3, .slice a3 n3 c3] 25)) x from fun x hx => Raw.below ⟨hatm.laid x hx, (hfm.2 x hx).2.2⟩ hal)
  have H3 := hid (hatm.below hal)
  have hEm := alloc_new w2 (Obj.cells #[.int .i64 k3, .slice a3 n3 c3] 25)
  have x4 : ((w2.alloc (Obj.cells #[.int .i64 k3, .slice a3 n3 c3] 25))).cell? ⟨w2.heap.size, 0, none⟩ = some (.int .i64 k3) := by rw [cell_of_block hEm]; rfl
  have x5 : ((w2.alloc (Obj.cells #[.int .i64 k3, .slice a3 n3 c3] 25))).cell? ⟨w2.heap.size, 1, none⟩ = some (.slice a3 n3 c3) := by rw [cell_of_block hEm]; rfl
  replace x0 := cell_keep x0 hbM
  replace x1 := cell_keep x1 hbM
  replace x2 := cell_keep x2 hbM
  replace x3 := cell_keep x3 hbM
  clear hatm hfm hal hEm hb2 h0
  go_wp2_with fail
  refine (HW.out _ HBM.out).mono ?_
  rintro e w3 ⟨vw, f4, rfl, hatw, hfw, hb3⟩
  obtain ⟨k4, n4, a4, c4, rfl⟩ := hatw.agg
  have hal : Below w3.heap.size w3 (w3.alloc (Obj.cells #[.int .i64 k4, .slice a4 n4 c4] 25)) := (Below.refl _ _).alloc (Nat.le_refl _) _
  have hbW := below_trans hb3 hal
  have HBW := hid hbW
  have HBX := hid (below_trans hbM hbW)
  have HR4 := hid (show ∀ x ∈ f4, Raw (w3.alloc (Obj.cells #[.int .i64 k4, .slice a4 n4 c4] 25)) x from fun x hx => Raw.below ⟨hatw.laid x hx, (hfw.2 x hx).2.2⟩ hal)
  have H4 := hid (hatw.below hal)
  have hEm := alloc_new w3 (Obj.cells #[.int .i64 k4, .slice a4 n4 c4] 25)
  have x6 : ((w3.alloc (Obj.cells #[.int .i64 k4, .slice a4 n4 c4] 25))).cell? ⟨w3.heap.size, 0, none⟩ = some (.int .i64 k4) := by rw [cell_of_block hEm]; rfl
  have x7 : ((w3.alloc (Obj.cells #[.int .i64 k4, .slice a4 n4 c4] 25))).cell? ⟨w3.heap.size, 1, none⟩ = some (.slice a4 n4 c4) := by rw [cell_of_block hEm]; rfl
  replace x0 := cell_keep x0 hbW
  replace x1 := cell_keep x1 hbW
  replace x2 := cell_keep x2 hbW
  replace x3 := cell_keep x3 hbW
  replace x4 := cell_keep x4 hbW
  replace x5 := cell_keep x5 hbW
  have G1 := hid (H1.out.below HBX.out)
  have G2 := hid (H2.out.below HBX.out)
  have G3 := hid (H3.out.below HBW.out)
  have Q1 := hid (show ∀ x ∈ f1, Raw (w3.alloc (Obj.cells #[.int .i64 k4, .slice a4 n4 c4] 25)) x from fun x hx => (HR1.out x hx).below HBX.out)
  have Q2 := hid (show ∀ x ∈ f2, Raw (w3.alloc (Obj.cells #[.int .i64 k4, .slice a4 n4 c4] 25)) x from fun x hx => (HR2.out x hx).below HBX.out)
  have Q3 := hid (show ∀ x ∈ f3, Raw (w3.alloc (Obj.cells #[.int .i64 k4, .slice a4 n4 c4] 25)) x from fun x hx => (HR3.out x hx).below HBW.out)
  have HMC := hid (show (joinOf t1 t2).cnt ≤ 200 by have := joinOf_cnt t1 t2; have := HSZ.out.1; have := HSZ.out.2; omega)
  clear hatw hfw hal hEm hb3 hbM hbW
  have h0 := Below.refl ((w3.alloc (Obj.cells #[.int .i64 k4, .slice a4 n4 c4] 25))).heap.size (w3.alloc (Obj.cells #[.int .i64 k4, .slice a4 n4 c4] 25))
  have HSM := hid (fun (W : World) (h : Below ((w3.alloc (Obj.cells #[.int .i64 k4, .slice a4 n4 c4] 25))).heap.size (w3.alloc (Obj.cells #[.int .i64 k4, .slice a4 n4 c4] 25)) W) => implTypeSame (joinOf t1 t2) (joinOf t1 t2) _ _ _ _ W (by have := HMC.out; omega) (G3.out.below h) (H4.out.below h) (fun x hx => (Q3.out x hx).below h) (fun x hx => (HR4.out x hx).below h))
  rw [tyEq_refl] at HSM
  have HJM := hid (fun (W : World) (h : Below ((w3.alloc (Obj.cells #[.int .i64 k4, .slice a4 n4 c4] 25))).heap.size (w3.alloc (Obj.cells #[.int .i64 k4, .slice a4 n4 c4] 25)) W) => implMeetTypes t1 (joinOf t1 t2) _ _ _ _ W (G1.out.below h) (G3.out.below h) (by have := HSZ.out.1; omega) (by have := HMC.out; omega))
  have HCB := hid (fun (W : World) (h : Below ((w3.alloc (Obj.cells #[.int .i64 k4, .slice a4 n4 c4] 25))).heap.size (w3.alloc (Obj.cells #[.int .i64 k4, .slice a4 n4 c4] 25)) W) => implConsistent t2 (joinOf t1 t2) _ _ _ _ W (G2.out.below h) (G3.out.below h))
  have HMS := hid (mj_pure t1 t2)
  generalize (vld t1 && vld t2) = r at *
  clear H1 H2 H3 H4 HR1 HR2 HR3 HR4 Q2 Q3 G2 G3 HM HW HBM HBW
  cases r
  · go_wp2_with fail
    refine (HSM.out _ h0).mono ?_
    rintro e z1 ⟨rfl, hz1⟩
    have hq1 := below_trans h0 hz1
    replace x0 := cell_keep x0 hz1
    replace x1 := cell_keep x1 hz1
    replace x2 := cell_keep x2 hz1
    replace x3 := cell_keep x3 hz1
    replace x4 := cell_keep x4 hz1
    replace x5 := cell_keep x5 hz1
    replace x6 := cell_keep x6 hz1
    replace x7 := cell_keep x7 hz1
    go_wp2_with fail
    refine (HSM.out _ hq1).mono ?_
    rintro e z2 ⟨rfl, hz2⟩
    have hq2 := below_trans hq1 hz2
    replace x0 := cell_keep x0 hz2
    replace x1 := cell_keep x1 hz2
    replace x2 := cell_keep x2 hz2
    replace x3 := cell_keep x3 hz2
    replace x4 := cell_keep x4 hz2
    replace x5 := cell_keep x5 hz2
    replace x6 := cell_keep x6 hz2
    replace x7 := cell_keep x7 hz2
    go_wp2_with fail
    go_ret
    exact ⟨rfl, below_trans HBL.out (below_trans HBX.out hq2)⟩
  · have HT := by first | exact HMS.out rfl | exact HMS.out trivial | exact HMS.out
    obtain ⟨e1, e2, e3⟩ := HT
    rw [e1, e2] at HJM
    rw [e3] at HCB
    clear e1 e2 e3
    go_wp2_with fail
    refine (HSM.out _ h0).mono ?_
    rintro e z3 ⟨rfl, hz3⟩
    have hq3 := below_trans h0 hz3
    replace x0 := cell_keep x0 hz3
    replace x1 := cell_keep x1 hz3
    replace x2 := cell_keep x2 hz3
    replace x3 := cell_keep x3 hz3
    replace x4 := cell_keep x4 hz3
    replace x5 := cell_keep x5 hz3
    replace x6 := cell_keep x6 hz3
    replace x7 := cell_keep x7 hz3
    go_wp2_with fail
    refine (HJM.out _ hq3).mono ?_
    rintro e w5 ⟨vj, f5, rfl, hatj, hfj, hb5⟩
    obtain ⟨k5, n5, a5, c5, rfl⟩ := hatj.agg
    have hal : Below w5.heap.size w5 (w5.alloc (Obj.cells #[.int .i64 k5, .slice a5 n5 c5] 25)) := (Below.refl _ _).alloc (Nat.le_refl _) _
    have hbJ := below_trans hb5 hal
    have hcJ := below_trans hq3 hbJ
    have HCJ := hid hcJ
    have HR5 := hid (show ∀ x ∈ f5, Raw (w5.alloc (Obj.cells #[.int .i64 k5, .slice a5 n5 c5] 25)) x from fun x hx => Raw.below ⟨hatj.laid x hx, (hfj.2 x hx).2.2⟩ hal)
    have H5 := hid (hatj.below hal)
    have hEm := alloc_new w5 (Obj.cells #[.int .i64 k5, .slice a5 n5 c5] 25)
    have x8 : (w5.alloc (Obj.cells #[.int .i64 k5, .slice a5 n5 c5] 25)).cell? ⟨w5.heap.size, 0, none⟩ = some (.int .i64 k5) := by rw [cell_of_block hEm]; rfl
    have x9 : (w5.alloc (Obj.cells #[.int .i64 k5, .slice a5 n5 c5] 25)).cell? ⟨w5.heap.size, 1, none⟩ = some (.slice a5 n5 c5) := by rw [cell_of_block hEm]; rfl
    replace x0 := cell_keep x0 hbJ
    replace x1 := cell_keep x1 hbJ
    replace x2 := cell_keep x2 hbJ
    replace x3 := cell_keep x3 hbJ
    replace x4 := cell_keep x4 hbJ
    replace x5 := cell_keep x5 hbJ
    replace x6 := cell_keep x6 hbJ
    replace x7 := cell_keep x7 hbJ
    have HMA := hid (fun (W : World) (h : Below (w5.alloc (Obj.cells #[.int .i64 k5, .slice a5 n5 c5] 25)).heap.size (w5.alloc (Obj.cells #[.int .i64 k5, .slice a5 n5 c5] 25)) W) => implTypeSame t1 t1 _ _ _ _ W (by have := HSZ.out.1; omega) (H5.out.below h) ((G1.out.below HCJ.out).below h) (fun x hx => (HR5.out x hx).below h) (fun x hx => ((Q1.out x hx).below HCJ.out).below h))
    rw [tyEq_refl] at HMA
    have h9 := Below.refl (w5.alloc (Obj.cells #[.int .i64 k5, .slice a5 n5 c5] 25)).heap.size (w5.alloc (Obj.cells #[.int .i64 k5, .slice a5 n5 c5] 25))
    clear hatj hfj hal hEm hb5
    go_wp2_with fail
    refine (HMA.out _ h9).mono ?_
    rintro e y1 ⟨rfl, hy1⟩
    have hq1 := below_trans hcJ hy1
    replace x0 := cell_keep x0 hy1
    replace x1 := cell_keep x1 hy1
    replace x2 := cell_keep x2 hy1
    replace x3 := cell_keep x3 hy1
    replace x4 := cell_keep x4 hy1
    replace x5 := cell_keep x5 hy1
    replace x6 := cell_keep x6 hy1
    replace x7 := cell_keep x7 hy1
    replace x8 := cell_keep x8 hy1
    replace x9 := cell_keep x9 hy1
    go_wp2_with fail
    refine (HCB.out _ hq1).mono ?_
    rintro e y2 ⟨rfl, hy2⟩
    have hq2 := below_trans hq1 hy2
    go_wp2_with fail
    go_ret
    exact ⟨rfl, below_trans HBL.out (below_trans HBX.out hq2)⟩
end Go.Proofs.Ytdnnfgbhmaoabaa
