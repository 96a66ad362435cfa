/- The drawn law on CoerceOf: it returns true and writes nothing that was there. -/
import Derived.Test.YtolhfcpmhhhjpaaRCfP
import Derived.Test.YtolhfcpmhhhjpaaRDc0
import Derived.Test.YtolhfcpmhhhjpaaRG17
import Derived.Test.YtolhfcpmhhhjpaaRQTsm
import Derived.Test.YtolhfcpmhhhjpaaRG25
import Derived.Test.YtolhfcpmhhhjpaaRG1
namespace Go.Proofs.Ytolhfcpmhhhjpaa
open Go.RowKit

set_option linter.unusedVariables false in
set_option linter.unusedSimpArgs false in
set_option maxRecDepth 100000 in
set_option maxHeartbeats 8000000 in
theorem lawDCf (a : Option Addr) (n cap : Nat) (w : World) (hB : BytA w a n) (hn : n ≤ cap) (hm : cap ≤ maxLen) :
    Calls Try.prog 3 #[.slice a n cap] w fun e w' => e = .returned (.bool true) ∧ Below w.heap.size w w' := by
  by_cases hl : (n : Int) > 1048576
  · clear hB
    go_enter Try.func3, Try.ntmps3
    go_wp2_with fail
    go_ret
    exact ⟨rfl, Below.refl _ _⟩
  have HD := hid (drawCo_any a n cap w hB hn hm)
  clear hB
  go_enter Try.func3, Try.ntmps3
  go_wp2_with fail
  refine HD.out.mono ?_
  rintro e w1 ⟨t1, t2, v1, v2, f1, f2, l, rfl, hsm, hlb, h1, h2, m1, m2, hb⟩
  obtain ⟨k1, n1, a1, c1, rfl⟩ := h1.agg
  obtain ⟨k2, n2, a2, c2, rfl⟩ := h2.agg
  have hal : Below w1.heap.size w1 ((w1.alloc (Obj.cells #[.int .i64 k1, .slice a1 n1 c1] 25)).alloc (Obj.cells #[.int .i64 k2, .slice a2 n2 c2] 25)) := ((Below.refl _ _).alloc (Nat.le_refl _) _).alloc (by simp) _
  have hbw := below_trans hb hal
  have H1 := hid (h1.below hal)
  have H2 := hid (h2.below hal)
  have R1 := hid (fun x (hx : x ∈ f1) => (show Raw ((w1.alloc (Obj.cells #[.int .i64 k1, .slice a1 n1 c1] 25)).alloc (Obj.cells #[.int .i64 k2, .slice a2 n2 c2] 25)) x from (⟨(h1.below hal).laid x hx, fun o => (hal.frozen (p := ⟨x, o, none⟩) (h1.lt x hx)).trans ((m1 x hx).2 o)⟩ : Raw ((w1.alloc (Obj.cells #[.int .i64 k1, .slice a1 n1 c1] 25)).alloc (Obj.cells #[.int .i64 k2, .slice a2 n2 c2] 25)) x)))
  have R2 := hid (fun x (hx : x ∈ f2) => (show Raw ((w1.alloc (Obj.cells #[.int .i64 k1, .slice a1 n1 c1] 25)).alloc (Obj.cells #[.int .i64 k2, .slice a2 n2 c2] 25)) x from (⟨(h2.below hal).laid x hx, fun o => (hal.frozen (p := ⟨x, o, none⟩) (h2.lt x hx)).trans ((m2 x hx).2 o)⟩ : Raw ((w1.alloc (Obj.cells #[.int .i64 k1, .slice a1 n1 c1] 25)).alloc (Obj.cells #[.int .i64 k2, .slice a2 n2 c2] 25)) x)))
  obtain ⟨hO1, hO2⟩ := two9 (Below.refl ((w1.alloc (Obj.cells #[.int .i64 k1, .slice a1 n1 c1] 25)).alloc (Obj.cells #[.int .i64 k2, .slice a2 n2 c2] 25)).heap.size ((w1.alloc (Obj.cells #[.int .i64 k1, .slice a1 n1 c1] 25)).alloc (Obj.cells #[.int .i64 k2, .slice a2 n2 c2] 25)))
  have hsW : ((w1.alloc (Obj.cells #[.int .i64 k1, .slice a1 n1 c1] 25)).alloc (Obj.cells #[.int .i64 k2, .slice a2 n2 c2] 25)).heap.size = w1.heap.size + 1 + 1 := by simp
  clear h1 h2 m1 m2 hb
  go_upto_region 4 with (fail)
  generalize ((w1.alloc (Obj.cells #[.int .i64 k1, .slice a1 n1 c1] 25)).alloc (Obj.cells #[.int .i64 k2, .slice a2 n2 c2] 25)) = W2 at H1 H2 R1 R2 hO1 hO2 hbw hsW ⊢
  generalize w1.heap.size = A at hO1 hO2 hsW ⊢
  clear hal
  have HI := hid (fun (W : World) (h : Below W2.heap.size W2 W) => implCoerceOf t1 t2 l _ _ f1 f2 W (H1.out.below h) (H2.out.below h))
  have HP := hid (fun (W : World) (h : Below W2.heap.size W2 W) => specCoerceOf t1 t2 l _ _ f1 f2 W (H1.out.below h) (H2.out.below h))
  have HCN := hid (cstOf_cnt t1 t2 l)
  have HVC := hid (fun (h : cstOk t1 t2 l = true) => vld_cst h)
  have HYC := hid (fun (h : cstOk t1 t2 l = true) => ctyp_cst h)
  have HIC := hid (fun (h : cstOk t1 t2 l = true) => idV_cst h)
  have HLC := hid (fun (h : cstOk t1 t2 l = true) => lcLst_cst h)
  generalize cstOk t1 t2 l = ok at *
  generalize cstOf t1 t2 l = C at *
  obtain ⟨x0, x1, x2, x3⟩ : W2.cell? ⟨A, 0, none⟩ = some (.int .i64 k1) ∧ W2.cell? ⟨A, 1, none⟩ = some (.slice a1 n1 c1) ∧ W2.cell? ⟨A + 1, 0, none⟩ = some (.int .i64 k2) ∧ W2.cell? ⟨A + 1, 1, none⟩ = some (.slice a2 n2 c2) := ⟨by rw [cell_of_block hO1]; rfl, by rw [cell_of_block hO1]; rfl, by rw [cell_of_block hO2]; rfl, by rw [cell_of_block hO2]; rfl⟩
  go_wp2_with fail
  refine (HI.out _ (Below.refl _ _)).mono ?_
  rintro e w3 ⟨vc, fc, rfl, hc, hfc, hb3⟩
  obtain ⟨p0, p1, p2, p3, p4, p5, rfl⟩ := hc.agg
  have hal3 : Below w3.heap.size w3 (w3.alloc (Obj.cells #[.int .i64 p0, .int .i64 p1, .int .i64 p2, .slice p4 p3 p5] 30)) := (Below.refl _ _).alloc (Nat.le_refl _) _
  have hk3 := below_trans hb3 hal3
  have hC3 := alloc_new w3 (Obj.cells #[.int .i64 p0, .int .i64 p1, .int .i64 p2, .slice p4 p3 p5] 30)
  replace hc := hc.below hal3
  replace hfc := hfc.below hal3
  clear hb3
  go_upto_region 5 with (fail)
  generalize hx3 : w3.alloc (Obj.cells #[.int .i64 p0, .int .i64 p1, .int .i64 p2, .slice p4 p3 p5] 30) = W3 at hk3 hC3 hc hfc ⊢
  generalize w3.heap.size = P at hC3 ⊢
  clear hal3 hx3
  replace x0 := cell_keep x0 hk3
  replace x1 := cell_keep x1 hk3
  replace x2 := cell_keep x2 hk3
  replace x3 := cell_keep x3 hk3
  go_wp2_with fail
  refine (HP.out _ hk3).mono ?_
  rintro e w4 ⟨vd, fd, rfl, hd, hfd, hb4⟩
  obtain ⟨q0, q1, q2, q3, q4, q5, rfl⟩ := hd.agg
  have hal4 : Below w4.heap.size w4 (w4.alloc (Obj.cells #[.int .i64 q0, .int .i64 q1, .int .i64 q2, .slice q4 q3 q5] 30)) := (Below.refl _ _).alloc (Nat.le_refl _) _
  have hk34 := below_trans hb4 hal4
  have hk4 := below_trans hk3 hk34
  have hD4 := alloc_new w4 (Obj.cells #[.int .i64 q0, .int .i64 q1, .int .i64 q2, .slice q4 q3 q5] 30)
  have hC4 := blk hC3 hk34
  replace hc := hc.below hk34
  replace hfc := hfc.below hk34
  replace hd := hd.below hal4
  replace hfd := hfd.below hal4
  clear hb4 hk3 x0 x1 x2 x3 hC3
  go_upto_region 6 with (fail)
  generalize hx4 : w4.alloc (Obj.cells #[.int .i64 q0, .int .i64 q1, .int .i64 q2, .slice q4 q3 q5] 30) = W4 at hk4 hD4 hC4 hc hfc hd hfd ⊢
  generalize w4.heap.size = Q at hD4 ⊢
  clear hal4 hx4 hk34
  have HS := hid (fun (W : World) (h : Below W4.heap.size W4 W) => (show W.cell? ⟨A, 0, none⟩ = some (.int .i64 k1) ∧ W.cell? ⟨A, 1, none⟩ = some (.slice a1 n1 c1) ∧ W.cell? ⟨A + 1, 0, none⟩ = some (.int .i64 k2) ∧ W.cell? ⟨A + 1, 1, none⟩ = some (.slice a2 n2 c2) ∧ W.cell? ⟨P, 0, none⟩ = some (.int .i64 p0) ∧ W.cell? ⟨P, 1, none⟩ = some (.int .i64 p1) ∧ W.cell? ⟨P, 2, none⟩ = some (.int .i64 p2) ∧ W.cell? ⟨P, 3, none⟩ = some (.slice p4 p3 p5) from by
    have e1 := blk (blk hO1 hk4) h
    have e2 := blk (blk hO2 hk4) h
    have e3 := blk hC4 h
    exact ⟨by rw [cell_of_block e1]; rfl, by rw [cell_of_block e1]; rfl, by rw [cell_of_block e2]; rfl, by rw [cell_of_block e2]; rfl, by rw [cell_of_block e3]; rfl, by rw [cell_of_block e3]; rfl, by rw [cell_of_block e3]; rfl, by rw [cell_of_block e3]; rfl⟩))
  have HQ := hid (fun (W : World) (h : Below W4.heap.size W4 W) => (show W.cell? ⟨Q, 0, none⟩ = some (.int .i64 q0) ∧ W.cell? ⟨Q, 1, none⟩ = some (.int .i64 q1) ∧ W.cell? ⟨Q, 2, none⟩ = some (.int .i64 q2) ∧ W.cell? ⟨Q, 3, none⟩ = some (.slice q4 q3 q5) from by
    have e3 := blk hD4 h
    exact ⟨by rw [cell_of_block e3]; rfl, by rw [cell_of_block e3]; rfl, by rw [cell_of_block e3]; rfl, by rw [cell_of_block e3]; rfl⟩))
  have HSM := hid (fun (W : World) (h : Below W4.heap.size W4 W) => (by
    have q := implCoercionSame C C _ _ fc fd W (by have := HCN.out; omega) (hc.below h) (hd.below h) (Fresh.rawQ (hc.below h) (hfc.below h)) (Fresh.rawQ (hd.below h) (hfd.below h))
    rw [coEq_refl] at q
    exact q : Calls Try.prog 16 #[.agg #[.int .i64 p0, .int .i64 p1, .int .i64 p2, .slice p4 p3 p5], .agg #[.int .i64 q0, .int .i64 q1, .int .i64 q2, .slice q4 q3 q5]] W fun e w' => e = .returned (.bool true) ∧ Below W.heap.size W w'))
  have HC := hid (And.intro hc hk4)
  have HBW := hid (below_trans hbw hk4)
  clear hc hfc hd hfd hO1 hO2 hC4 hD4 hk4 hbw HI HP HD
  have h0 := Below.refl W4.heap.size W4
  obtain ⟨x0, x1, x2, x3, p00, p01, p02, p03⟩ := HS.out _ h0
  obtain ⟨q00, q01, q02, q03⟩ := HQ.out _ h0
  cases ok with
  | false =>
    go_wp2_with fail
    refine (HSM.out _ h0).mono ?_
    rintro e w5 ⟨rfl, hb5⟩
    clear x0 x1 x2 x3 p00 p01 p02 p03 q00 q01 q02 q03 h0
    obtain ⟨x0, x1, x2, x3, p00, p01, p02, p03⟩ := HS.out _ hb5
    obtain ⟨q00, q01, q02, q03⟩ := HQ.out _ hb5
    go_wp2_with fail
    refine (HSM.out _ hb5).mono ?_
    rintro e w6 ⟨rfl, hb6⟩
    have hbf := below_trans HBW.out (below_trans hb5 hb6)
    go_wp2_with fail
    go_ret
    exact ⟨rfl, hbf⟩
  | true =>
    have HVC2 := HVC.out rfl
    have HYC2 := HYC.out rfl
    have HIC2 := HIC.out rfl
    have HLC2 := hid (HLC.out rfl)
    have HV := hid (fun (W : World) (h : Below W4.heap.size W4 W) => (by have q := implCoercionValid_any C _ _ W (HC.out.1.below h); rw [HVC2] at q; exact q : Calls Try.prog 18 #[.agg #[.int .i64 p0, .int .i64 p1, .int .i64 p2, .slice p4 p3 p5]] W fun e w' => e = .returned (.bool true) ∧ Below W.heap.size W w'))
    have HTY := hid (fun (W : World) (h : Below W4.heap.size W4 W) => (by have q := implCoercionTyped_any C t1 t2 _ _ _ _ _ _ W (HC.out.1.below h) (H1.out.below (below_trans HC.out.2 h)) (H2.out.below (below_trans HC.out.2 h)); rw [HYC2] at q; exact q : Calls Try.prog 19 #[.agg #[.int .i64 p0, .int .i64 p1, .int .i64 p2, .slice p4 p3 p5], .agg #[.int .i64 k1, .slice a1 n1 c1], .agg #[.int .i64 k2, .slice a2 n2 c2]] W fun e w' => e = .returned (.bool true) ∧ Below W.heap.size W w'))
    have HID := hid (fun (W : World) (h : Below W4.heap.size W4 W) => (by have q := implCoercionIdentity C _ _ W (HC.out.1.below h) (by have := HCN.out; omega); rw [HIC2] at q; exact q : Calls Try.prog 20 #[.agg #[.int .i64 p0, .int .i64 p1, .int .i64 p2, .slice p4 p3 p5]] W fun e w' => e = .returned (.bool (tyEq t1 t2)) ∧ Below W.heap.size W w'))
    have HTS := hid (fun (W : World) (h : Below W4.heap.size W4 W) => implTypeSame t1 t2 _ _ f1 f2 W (by have := hsm.1; omega) (H1.out.below (below_trans HC.out.2 h)) (H2.out.below (below_trans HC.out.2 h)) (fun x hx => (R1.out x hx).below (below_trans HC.out.2 h)) (fun x hx => (R2.out x hx).below (below_trans HC.out.2 h)))
    have HLB := hid (fun (W : World) (h : Below W4.heap.size W4 W) => implCoercionLabels C _ _ W (by have := HCN.out; omega) (HC.out.1.below h))
    have HLL := hid (lcLst_len C)
    generalize lcLst C = ds at *
    generalize tyEq t1 t2 = tt at *
    clear HVC2 HYC2 HIC2 HVC HYC HIC HLC
    go_wp2_with fail
    refine (HSM.out _ h0).mono ?_
    rintro e w5 ⟨rfl, hb5⟩
    clear x0 x1 x2 x3 p00 p01 p02 p03 q00 q01 q02 q03 h0
    obtain ⟨x0, x1, x2, x3, p00, p01, p02, p03⟩ := HS.out _ hb5
    go_wp2_with fail
    refine (HLB.out _ hb5).mono ?_
    rintro e w6 ⟨vl, rfl, hgr, hb6⟩
    obtain ⟨al, cl, rfl⟩ := hgr.shape
    have HK6 := hid (below_trans hb5 hb6)
    have HGR := hid hgr
    have hdl : ds.length ≤ 4194304 := by have := HLL.out; have := HCN.out; omega
    have hlw : IntKind.i64.wrap (-l) = -l := by rw [IntKind.wrap_i64]; omega
    have HLW := hid hlw
    clear x0 x1 x2 x3 p00 p01 p02 p03 hb5 hb6 hgr
    go_wp2_with fail
    go_loopw [11] (fun i wr => ∃ (j : Nat), j ≤ ds.length ∧ i = .int .i64 j ∧ Below w6.heap.size w6 wr) (fun i _ => ds.length - (intOf i).toNat)
    case atStart => exact ⟨0, Nat.zero_le _, rfl, Below.refl _ _⟩
    case round =>
      obtain ⟨j, hj, rfl, hbr⟩ := hrel
      have HWR := hid (below_trans HK6.out hbr)
      by_cases hlk : j < ds.length
      · obtain ⟨g, rfl, hglt, -, hcg, -⟩ := (HGR.out.below hbr).cells j hlk
        have hj0 : (0 : Int) ≤ (j : Int) := by omega
        have hj1 : (j : Int) < (ds.length : Int) := by omega
        have hx := HLC2.out ds[j] (List.getElem_mem hlk)
        have HBR := hid hbr
        generalize ds[j] = x at *
        clear hbr
        by_cases hxl : x = l
        · subst hxl
          go_wp2_with fail
          exact ⟨⟨j + 1, by omega, by go_num, HBR.out⟩, by simp [intOf]; omega⟩
        · have hxn : (x == l) = false := by simpa using hxl
          obtain rfl : x = -l := by omega
          go_wp2_with fail
          exact ⟨⟨j + 1, by omega, by go_num, HBR.out⟩, by simp [intOf]; omega⟩
      · obtain rfl : j = ds.length := by omega
        have HS := hid (fun (W : World) (h : Below wr.heap.size wr W) => HS.out W (below_trans HWR.out h))
        clear hlk hj hbr HLC2
        go_wp2_with fail
        refine regionL (s := 16) (S0 := (fun w' => w'.cell? ⟨A, 0, none⟩ = some (.int .i64 k1) ∧ w'.cell? ⟨A, 1, none⟩ = some (.slice a1 n1 c1) ∧ w'.cell? ⟨A + 1, 0, none⟩ = some (.int .i64 k2) ∧ w'.cell? ⟨A + 1, 1, none⟩ = some (.slice a2 n2 c2) ∧ w'.cell? ⟨P, 0, none⟩ = some (.int .i64 p0) ∧ w'.cell? ⟨P, 1, none⟩ = some (.int .i64 p1) ∧ w'.cell? ⟨P, 2, none⟩ = some (.int .i64 p2) ∧ w'.cell? ⟨P, 3, none⟩ = some (.slice p4 p3 p5))) (S1 := (fun _ => True)) (by kernel_rfl) (HS.out _ (below_drew wr)) (trivial) (fun hS0 => ?_)
        refine takeL0 (i := 0) (v := ?v1) rfl rfl (by kernel_rfl) (by kernel_rfl) (by kernel_rfl) (by decide) (by kernel_rfl) (by kernel_rfl) (fun _ _ _ h => h) (Or.inl ⟨by rfl, ?hy1⟩) (by assumption) ?_
        case hy1 => (intro w hSw; (try dsimp only at hSw); go_simp; (try with_reducible rfl))
        try simp only [Act.put, List.setIfInBounds_toArray, List.set_cons_zero, List.set_cons_succ]
        refine readyL (rs := [1]) (by kernel_rfl) (by simp) ?_
        refine AllReadyL.cons rfl (fun K hK => ?_) AllReadyL.nil
        go_simp
        refine (HV.out _ (below_trans HWR.out (below_drew wr))).mono ?_
        rintro e y1 ⟨rfl, hy1⟩
        have hk1 := below_trans (below_drew wr) hy1
        refine hK.out _ _ ?_ (fun hS1 => ?_)
        · exact ⟨trivial, fun _ => HS.out _ hk1⟩
        clear hK K hS0
        try simp only [Act.put, List.setIfInBounds_toArray, List.set_cons_zero, List.set_cons_succ]
        refine takeL0 (i := 2) (v := ?v2) rfl rfl (by kernel_rfl) (by kernel_rfl) (by kernel_rfl) (by decide) (by kernel_rfl) (by kernel_rfl) (fun _ _ _ h => h) (Or.inl ⟨by rfl, ?hy2⟩) (by assumption) ?_
        case hy2 => (intro w hSw; (try dsimp only at hSw); go_simp; (try with_reducible rfl))
        try simp only [Act.put, List.setIfInBounds_toArray, List.set_cons_zero, List.set_cons_succ]
        refine takeL0 (i := 3) (v := ?v3) rfl rfl (by kernel_rfl) (by kernel_rfl) (by kernel_rfl) (by decide) (by kernel_rfl) (by kernel_rfl) (fun _ _ _ h => h) (Or.inl ⟨by rfl, ?hy3⟩) (by assumption) ?_
        case hy3 => (intro w hSw; (try dsimp only at hSw); go_simp; (try with_reducible rfl))
        try simp only [Act.put, List.setIfInBounds_toArray, List.set_cons_zero, List.set_cons_succ]
        refine takeL0 (i := 4) (v := ?v4) rfl rfl (by kernel_rfl) (by kernel_rfl) (by kernel_rfl) (by decide) (by kernel_rfl) (by kernel_rfl) (fun _ _ _ h => h) (Or.inl ⟨by rfl, ?hy4⟩) (by assumption) ?_
        case hy4 => (intro w hSw; (try dsimp only at hSw); go_simp; (try with_reducible rfl))
        try simp only [Act.put, List.setIfInBounds_toArray, List.set_cons_zero, List.set_cons_succ]
        refine takeL0 (i := 5) (v := ?v5) rfl rfl (by kernel_rfl) (by kernel_rfl) (by kernel_rfl) (by decide) (by kernel_rfl) (by kernel_rfl) (fun _ _ _ h => h) (Or.inl ⟨by rfl, ?hy5⟩) (by assumption) ?_
        case hy5 => (intro w hSw; (try dsimp only at hSw); go_simp; (try with_reducible rfl))
        try simp only [Act.put, List.setIfInBounds_toArray, List.set_cons_zero, List.set_cons_succ]
        refine readyL (rs := [6]) (by kernel_rfl) (by simp) ?_
        refine AllReadyL.cons rfl (fun K hK => ?_) AllReadyL.nil
        go_simp
        refine (HTY.out _ (below_trans HWR.out (hk1))).mono ?_
        rintro e y6 ⟨rfl, hy6⟩
        have hk6 := below_trans (hk1) hy6
        refine hK.out _ _ ?_ (fun hS2 => ?_)
        · exact ⟨trivial, fun _ => HS.out _ hk6⟩
        clear hK K hS1
        try simp only [Act.put, List.setIfInBounds_toArray, List.set_cons_zero, List.set_cons_succ]
        refine takeL0 (i := 7) (v := ?v6) rfl rfl (by kernel_rfl) (by kernel_rfl) (by kernel_rfl) (by decide) (by kernel_rfl) (by kernel_rfl) (fun _ _ _ h => h) (Or.inl ⟨by rfl, ?hy6⟩) (by assumption) ?_
        case hy6 => (intro w hSw; (try dsimp only at hSw); go_simp; (try with_reducible rfl))
        try simp only [Act.put, List.setIfInBounds_toArray, List.set_cons_zero, List.set_cons_succ]
        refine takeL0 (i := 8) (v := ?v7) rfl rfl (by kernel_rfl) (by kernel_rfl) (by kernel_rfl) (by decide) (by kernel_rfl) (by kernel_rfl) (fun _ _ _ h => h) (Or.inl ⟨by rfl, ?hy7⟩) (by assumption) ?_
        case hy7 => (intro w hSw; (try dsimp only at hSw); go_simp; (try with_reducible rfl))
        try simp only [Act.put, List.setIfInBounds_toArray, List.set_cons_zero, List.set_cons_succ]
        refine takeL0 (i := 9) (v := ?v8) rfl rfl (by kernel_rfl) (by kernel_rfl) (by kernel_rfl) (by decide) (by kernel_rfl) (by kernel_rfl) (fun _ _ _ h => h) (Or.inl ⟨by rfl, ?hy8⟩) (by assumption) ?_
        case hy8 => (intro w hSw; (try dsimp only at hSw); go_simp; (try with_reducible rfl))
        try simp only [Act.put, List.setIfInBounds_toArray, List.set_cons_zero, List.set_cons_succ]
        refine takeL0 (i := 11) (v := ?v9) rfl rfl (by kernel_rfl) (by kernel_rfl) (by kernel_rfl) (by decide) (by kernel_rfl) (by kernel_rfl) (fun _ _ _ h => h) (Or.inl ⟨by rfl, ?hy9⟩) (by assumption) ?_
        case hy9 => (intro w hSw; (try dsimp only at hSw); go_simp; (try with_reducible rfl))
        try simp only [Act.put, List.setIfInBounds_toArray, List.set_cons_zero, List.set_cons_succ]
        refine takeL0 (i := 12) (v := ?v10) rfl rfl (by kernel_rfl) (by kernel_rfl) (by kernel_rfl) (by decide) (by kernel_rfl) (by kernel_rfl) (fun _ _ _ h => h) (Or.inl ⟨by rfl, ?hy10⟩) (by assumption) ?_
        case hy10 => (intro w hSw; (try dsimp only at hSw); go_simp; (try with_reducible rfl))
        try simp only [Act.put, List.setIfInBounds_toArray, List.set_cons_zero, List.set_cons_succ]
        refine readyL (rs := [10]) (by kernel_rfl) (by simp) ?_
        refine AllReadyL.cons rfl (fun K hK => ?_) AllReadyL.nil
        go_simp
        refine (HID.out _ (below_trans HWR.out (hk6))).mono ?_
        rintro e y10 ⟨rfl, hy10⟩
        have hk10 := below_trans (hk6) hy10
        refine hK.out _ _ ?_ (fun hS3 => ?_)
        · exact ⟨trivial, fun _ => HS.out _ hk10⟩
        clear hK K hS2
        try simp only [Act.put, List.setIfInBounds_toArray, List.set_cons_zero, List.set_cons_succ]
        refine readyL (rs := [13]) (by kernel_rfl) (by simp) ?_
        refine AllReadyL.cons rfl (fun K hK => ?_) AllReadyL.nil
        go_simp
        refine (HTS.out _ (below_trans HWR.out (hk10))).mono ?_
        rintro e y13 ⟨rfl, hy13⟩
        have hk13 := below_trans (hk10) hy13
        refine hK.out _ _ ?_ (fun hS4 => ?_)
        · exact ⟨trivial, fun _ => HS.out _ hk13⟩
        clear hK K hS3
        try simp only [Act.put, List.setIfInBounds_toArray, List.set_cons_zero, List.set_cons_succ]
        refine takeL0 (i := 14) (v := ?v11) rfl rfl (by kernel_rfl) (by kernel_rfl) (by kernel_rfl) (by decide) (by kernel_rfl) (by kernel_rfl) (fun _ _ _ h => h) (Or.inl ⟨by rfl, ?hy11⟩) (by assumption) ?_
        case hy11 => (intro w hSw; (try dsimp only at hSw); go_simp; (try with_reducible rfl))
        try simp only [Act.put, List.setIfInBounds_toArray, List.set_cons_zero, List.set_cons_succ]
        refine takeL0 (i := 15) (v := ?v12) rfl rfl (by kernel_rfl) (by kernel_rfl) (by kernel_rfl) (by decide) (by kernel_rfl) (by kernel_rfl) (fun _ _ _ h => h) (Or.inl ⟨by rfl, ?hy12⟩) (by assumption) ?_
        case hy12 => (intro w hSw; (try dsimp only at hSw); go_simp; (try with_reducible rfl))
        try simp only [Act.put, List.setIfInBounds_toArray, List.set_cons_zero, List.set_cons_succ]
        refine readyL (rs := [16]) (by kernel_rfl) (by simp) ?_
        refine AllReadyL.cons rfl (fun K hK => ?_) AllReadyL.nil
        go_simp
        refine hK.out _ _ ?_ (fun hS5 => ?_)
        · exact ⟨trivial, fun h => absurd (h.symm.trans (show _ = true by kernel_rfl)) (by decide)⟩
        clear hK K hS4
        try simp only [Act.put, List.setIfInBounds_toArray, List.set_cons_zero, List.set_cons_succ]
        refine doneL (by kernel_rfl) ?_ _
        have hbf := below_trans HBW.out (below_trans HWR.out hk13)
        go_wp2_with fail
        go_ret
        exact ⟨by cases tt <;> rfl, hbf⟩
end Go.Proofs.Ytolhfcpmhhhjpaa
