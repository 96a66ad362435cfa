/- The drawn law on CoerceChain: it returns true and writes nothing that was there. -/
import Derived.Test.YtolhfcpmhhhjpaaSG23
import Derived.Test.YtolhfcpmhhhjpaaSQci
import Derived.Test.YtolhfcpmhhhjpaaSG7
import Derived.Test.YtolhfcpmhhhjpaaSDr8
import Derived.Test.YtolhfcpmhhhjpaaSQTsm
import Derived.Test.YtolhfcpmhhhjpaaSG1
namespace Go.Proofs.Ytolhfcpmhhhjpaa
open Go.RowKit

theorem chain_cmp {f m t : Ty} {l l' : Int} (h1 : cstOk f m l = true) (h2 : cstOk m t l' = true) (hz : cmpOk (cstOf f m l) (cstOf m t l') = true) : ctyp (cmpOf (cstOf f m l) (cstOf m t l')) f t = true ∧ hgtV (cmpOf (cstOf f m l) (cstOf m t l')) ≤ 4 ∧ (cmpOf (cstOf f m l) (cstOf m t l')).cnt ≤ 1048576 := by
  have hz0 := hz
  simp only [cmpOk, Bool.and_eq_true] at hz
  obtain ⟨_, _, h3⟩ := hz
  cases hc : cmpo 18 (cstOf f m l) (cstOf m t l') with
  | none => rw [hc] at h3; cases h3
  | some z =>
    rw [hc] at h3
    have hv : vldK z = true := h3
    have := chain_ok h1 h2 hc hv
    rw [cmpOf, if_pos hz0, hc, Option.getD_some, hgtV, if_pos hv]
    exact ⟨this.1, this.2, shpK_cnt20Q (d := 9) hv (by omega)⟩

theorem hgtV_bd (t : Co) : 0 ≤ hgtV t := by
  unfold hgtV
  split
  · exact (hgt_bd t).1
  · omega

set_option linter.unusedVariables false in
set_option linter.unusedSimpArgs false in
set_option maxRecDepth 100000 in
set_option maxHeartbeats 8000000 in
theorem lawDCc (a : Option Addr) (n cap : Nat) (a' : Option Addr) (n' cap' : Nat) (w : World) (hB : BytA w a n) (hn : n ≤ cap) (hm : cap ≤ maxLen) (hB' : BytA w a' n') (hn' : n' ≤ cap') (hm' : cap' ≤ maxLen) :
    Calls Try.prog 10 #[.slice a n cap, .slice a' n' cap'] w fun e w' => e = .returned (.bool true) ∧ Below w.heap.size w w' := by
  by_cases hl : (n : Int) > 1048576
  · clear hB hB'
    go_enter Try.func10, Try.ntmps10
    go_wp2_with fail
    go_ret
    exact ⟨rfl, Below.refl _ _⟩
  by_cases hl' : (n' : Int) > 1048576
  · clear hB hB'
    go_enter Try.func10, Try.ntmps10
    go_wp2_with fail
    go_ret
    exact ⟨rfl, Below.refl _ _⟩
  have HD := hid (drawCon_any a n cap w hB hn hm)
  have HD2 := hid (fun (W : World) (h : Below w.heap.size w W) => drawCon_any a' n' cap' W (hB'.below h) hn' hm')
  clear hB hB'
  go_enter Try.func10, Try.ntmps10
  go_wp2_with fail
  refine HD.out.mono ?_
  rintro e w1 ⟨t1, t2, v1, v2, f1, f2, rfl, hsm, h1, h2, -, -, hb⟩
  obtain ⟨k1, n1, a1, c1, rfl⟩ := h1.agg
  obtain ⟨k2, n2, a2, c2, rfl⟩ := h2.agg
  have hal : Below w1.heap.size w1 ((w1.alloc (Obj.cells #[.int .i64 k1, .slice a1 n1 c1] 25)).alloc (Obj.cells #[.int .i64 k2, .slice a2 n2 c2] 25)) := ((Below.refl _ _).alloc (Nat.le_refl _) _).alloc (by simp) _
  have hbw := below_trans hb hal
  have q1 := h1.below hal
  have q2 := h2.below hal
  obtain ⟨hO1, hO2⟩ := two9 (Below.refl ((w1.alloc (Obj.cells #[.int .i64 k1, .slice a1 n1 c1] 25)).alloc (Obj.cells #[.int .i64 k2, .slice a2 n2 c2] 25)).heap.size ((w1.alloc (Obj.cells #[.int .i64 k1, .slice a1 n1 c1] 25)).alloc (Obj.cells #[.int .i64 k2, .slice a2 n2 c2] 25)))
  clear h1 h2 hb
  go_upto_region 4 with (fail)
  generalize ((w1.alloc (Obj.cells #[.int .i64 k1, .slice a1 n1 c1] 25)).alloc (Obj.cells #[.int .i64 k2, .slice a2 n2 c2] 25)) = W2 at q1 q2 hO1 hO2 hbw ⊢
  generalize w1.heap.size = A at hO1 hO2 ⊢
  clear hal
  go_wp2_with fail
  refine (HD2.out _ hbw).mono ?_
  rintro e w3 ⟨t3, t4, v3, v4, f3, f4, rfl, hsm', h3, h4, -, -, hb3⟩
  obtain ⟨k3, n3, a3, c3, rfl⟩ := h3.agg
  obtain ⟨k4, n4, a4, c4, rfl⟩ := h4.agg
  have hal3 : Below w3.heap.size w3 ((w3.alloc (Obj.cells #[.int .i64 k3, .slice a3 n3 c3] 25)).alloc (Obj.cells #[.int .i64 k4, .slice a4 n4 c4] 25)) := ((Below.refl _ _).alloc (Nat.le_refl _) _).alloc (by simp) _
  have hk3 := below_trans hb3 hal3
  have q4 := h4.below hal3
  obtain ⟨-, hO4⟩ := two9 (Below.refl ((w3.alloc (Obj.cells #[.int .i64 k3, .slice a3 n3 c3] 25)).alloc (Obj.cells #[.int .i64 k4, .slice a4 n4 c4] 25)).heap.size ((w3.alloc (Obj.cells #[.int .i64 k3, .slice a3 n3 c3] 25)).alloc (Obj.cells #[.int .i64 k4, .slice a4 n4 c4] 25)))
  replace hO1 := blk hO1 hk3
  replace hO2 := blk hO2 hk3
  replace q1 := q1.below hk3
  replace q2 := q2.below hk3
  have hbw4 := below_trans hbw hk3
  clear h3 h4 hb3 hk3 hbw HD HD2
  go_upto_region 5 with (fail)
  generalize ((w3.alloc (Obj.cells #[.int .i64 k3, .slice a3 n3 c3] 25)).alloc (Obj.cells #[.int .i64 k4, .slice a4 n4 c4] 25)) = W4 at q1 q2 q4 hO1 hO2 hO4 hbw4 ⊢
  generalize w3.heap.size = D at hO4 ⊢
  clear hal3
  have HC1 := hid (fun (W : World) (h : Below W4.heap.size W4 W) => implCoerceOf t1 t2 1 _ _ f1 f2 W (q1.below h) (q2.below h))
  have HS1 := hid (fun (W : World) (h : Below W4.heap.size W4 W) => specCoerceOf t1 t2 1 _ _ f1 f2 W (q1.below h) (q2.below h))
  have HC2 := hid (fun (W : World) (h : Below W4.heap.size W4 W) => implCoerceOf t2 t4 2 _ _ f2 f4 W (q2.below h) (q4.below h))
  have H1 := hid q1
  have H4 := hid q4
  have HCN := hid (cstOf_cnt t1 t2 1)
  have HCH := hid (fun (h1 : cstOk t1 t2 1 = true) (h2 : cstOk t2 t4 2 = true) => chain_cmp h1 h2)
  generalize cstOk t1 t2 1 = ok1 at *
  generalize cstOk t2 t4 2 = ok2 at *
  generalize cstOf t1 t2 1 = C at *
  generalize cstOf t2 t4 2 = E at *
  have HA1 := hid (fun (W : World) (h : Below W4.heap.size W4 W) => (show W.cell? ⟨A, 0, none⟩ = some (.int .i64 k1) ∧ W.cell? ⟨A, 1, none⟩ = some (.slice a1 n1 c1) from by
    have e3 := blk hO1 h
    exact ⟨by rw [cell_of_block e3]; rfl, by rw [cell_of_block e3]; rfl⟩))
  have HA2 := hid (fun (W : World) (h : Below W4.heap.size W4 W) => (show W.cell? ⟨(A + 1), 0, none⟩ = some (.int .i64 k2) ∧ W.cell? ⟨(A + 1), 1, none⟩ = some (.slice a2 n2 c2) from by
    have e3 := blk hO2 h
    exact ⟨by rw [cell_of_block e3]; rfl, by rw [cell_of_block e3]; rfl⟩))
  have HA4 := hid (fun (W : World) (h : Below W4.heap.size W4 W) => (show W.cell? ⟨(D + 1), 0, none⟩ = some (.int .i64 k4) ∧ W.cell? ⟨(D + 1), 1, none⟩ = some (.slice a4 n4 c4) from by
    have e3 := blk hO4 h
    exact ⟨by rw [cell_of_block e3]; rfl, by rw [cell_of_block e3]; rfl⟩))
  clear q1 q2 q4 hO1 hO2 hO4
  obtain ⟨x0, x1⟩ := HA1.out _ (Below.refl _ _)
  obtain ⟨x2, x3⟩ := HA2.out _ (Below.refl _ _)
  go_wp2_with fail
  refine (HC1.out _ (Below.refl _ _)).mono ?_
  rintro e z5 ⟨v5, f5, rfl, hc5, hf5, hb5⟩
  obtain ⟨p0, p1, p2, p3, p4, p5, rfl⟩ := hc5.agg
  have hal5 : Below z5.heap.size z5 (z5.alloc (Obj.cells #[.int .i64 p0, .int .i64 p1, .int .i64 p2, .slice p4 p3 p5] 30)) := (Below.refl _ _).alloc (Nat.le_refl _) _
  have hk5 := below_trans hb5 hal5
  have hB5 := alloc_new z5 (Obj.cells #[.int .i64 p0, .int .i64 p1, .int .i64 p2, .slice p4 p3 p5] 30)
  replace hc5 := hc5.below hal5
  replace hf5 := hf5.below hal5
  clear hb5
  go_upto_region 6 with (fail)
  generalize hx5 : z5.alloc (Obj.cells #[.int .i64 p0, .int .i64 p1, .int .i64 p2, .slice p4 p3 p5] 30) = W5 at hk5 hB5 hc5 hf5 ⊢
  generalize z5.heap.size = B5 at hB5 ⊢
  clear hal5 hx5
  clear x0 x1 x2 x3
  obtain ⟨x0, x1⟩ := HA1.out _ hk5
  obtain ⟨x2, x3⟩ := HA2.out _ hk5
  go_wp2_with fail
  refine (HS1.out _ hk5).mono ?_
  rintro e z6 ⟨v6, f6, rfl, hc6, hf6, hb6⟩
  obtain ⟨q0, q1, q2, q3, q4, q5, rfl⟩ := hc6.agg
  have hal6 : Below z6.heap.size z6 (z6.alloc (Obj.cells #[.int .i64 q0, .int .i64 q1, .int .i64 q2, .slice q4 q3 q5] 30)) := (Below.refl _ _).alloc (Nat.le_refl _) _
  have hk6 := below_trans hb6 hal6
  have hB6 := alloc_new z6 (Obj.cells #[.int .i64 q0, .int .i64 q1, .int .i64 q2, .slice q4 q3 q5] 30)
  replace hc6 := hc6.below hal6
  replace hf6 := hf6.below hal6
  clear hb6
  go_upto_region 7 with (fail)
  generalize hx6 : z6.alloc (Obj.cells #[.int .i64 q0, .int .i64 q1, .int .i64 q2, .slice q4 q3 q5] 30) = W6 at hk6 hB6 hc6 hf6 ⊢
  generalize z6.heap.size = B6 at hB6 ⊢
  clear hal6 hx6
  have hk56 := below_trans hk5 hk6
  replace hB5 := blk hB5 hk6
  replace hc5 := hc5.below hk6
  replace hf5 := hf5.below hk6
  clear x0 x1 x2 x3 hk5 hk6
  obtain ⟨x2, x3⟩ := HA2.out _ hk56
  obtain ⟨x4, x5⟩ := HA4.out _ hk56
  go_wp2_with fail
  refine (HC2.out _ hk56).mono ?_
  rintro e z7 ⟨v7, f7, rfl, hc7, hf7, hb7⟩
  obtain ⟨s0, s1, s2, s3, s4, s5, rfl⟩ := hc7.agg
  have hal7 : Below z7.heap.size z7 (z7.alloc (Obj.cells #[.int .i64 s0, .int .i64 s1, .int .i64 s2, .slice s4 s3 s5] 30)) := (Below.refl _ _).alloc (Nat.le_refl _) _
  have hk7 := below_trans hb7 hal7
  have hB7 := alloc_new z7 (Obj.cells #[.int .i64 s0, .int .i64 s1, .int .i64 s2, .slice s4 s3 s5] 30)
  replace hc7 := hc7.below hal7
  replace hf7 := hf7.below hal7
  clear hb7
  go_upto_region 8 with (fail)
  generalize hx7 : z7.alloc (Obj.cells #[.int .i64 s0, .int .i64 s1, .int .i64 s2, .slice s4 s3 s5] 30) = W7 at hk7 hB7 hc7 hf7 ⊢
  generalize z7.heap.size = B7 at hB7 ⊢
  clear hal7 hx7
  have hk := below_trans hk56 hk7
  replace hB5 := blk hB5 hk7
  replace hB6 := blk hB6 hk7
  replace hc5 := hc5.below hk7
  replace hc6 := hc6.below hk7
  replace hf5 := hf5.below hk7
  replace hf6 := hf6.below hk7
  clear x2 x3 x4 x5 hk56 hk7 hf7
  have HP := hid (fun (W : World) (h : Below W7.heap.size W7 W) => (show W.cell? ⟨B5, 0, none⟩ = some (.int .i64 p0) ∧ W.cell? ⟨B5, 1, none⟩ = some (.int .i64 p1) ∧ W.cell? ⟨B5, 2, none⟩ = some (.int .i64 p2) ∧ W.cell? ⟨B5, 3, none⟩ = some (.slice p4 p3 p5) from by
    have e3 := blk hB5 h
    exact ⟨by rw [cell_of_block e3]; rfl, by rw [cell_of_block e3]; rfl, by rw [cell_of_block e3]; rfl, by rw [cell_of_block e3]; rfl⟩))
  have HQ := hid (fun (W : World) (h : Below W7.heap.size W7 W) => (show W.cell? ⟨B6, 0, none⟩ = some (.int .i64 q0) ∧ W.cell? ⟨B6, 1, none⟩ = some (.int .i64 q1) ∧ W.cell? ⟨B6, 2, none⟩ = some (.int .i64 q2) ∧ W.cell? ⟨B6, 3, none⟩ = some (.slice q4 q3 q5) from by
    have e3 := blk hB6 h
    exact ⟨by rw [cell_of_block e3]; rfl, by rw [cell_of_block e3]; rfl, by rw [cell_of_block e3]; rfl, by rw [cell_of_block e3]; rfl⟩))
  have HSS := hid (fun (W : World) (h : Below W7.heap.size W7 W) => (show W.cell? ⟨B7, 0, none⟩ = some (.int .i64 s0) ∧ W.cell? ⟨B7, 1, none⟩ = some (.int .i64 s1) ∧ W.cell? ⟨B7, 2, none⟩ = some (.int .i64 s2) ∧ W.cell? ⟨B7, 3, none⟩ = some (.slice s4 s3 s5) from by
    have e3 := blk hB7 h
    exact ⟨by rw [cell_of_block e3]; rfl, by rw [cell_of_block e3]; rfl, by rw [cell_of_block e3]; rfl, by rw [cell_of_block e3]; rfl⟩))
  have HSM := hid (fun (W : World) (h : Below W7.heap.size W7 W) => (by
    have q := implCoercionSame C C _ _ f5 f6 W (by have := HCN.out; omega) (hc5.below h) (hc6.below h) (Fresh.rawQ (hc5.below h) (hf5.below h)) (Fresh.rawQ (hc6.below h) (hf6.below h))
    rw [coEq_refl] at q
    exact q : Calls Try.prog 16 #[.agg #[.int .i64 p0, .int .i64 p1, .int .i64 p2, .slice p4 p3 p5], .agg #[.int .i64 q0, .int .i64 q1, .int .i64 q2, .slice q4 q3 q5]] W fun e w' => e = .returned (.bool true) ∧ Below W.heap.size W w'))
  have HCM := hid (fun (W : World) (h : Below W7.heap.size W7 W) => implCompose C E _ _ f5 f7 W (hc5.below h) (hc7.below h))
  have HZN := hid (cmpOf_cnt C E)
  generalize cmpOf C E = Z at *
  generalize cmpOk C E = okZ at *
  have HBW := hid (below_trans hbw4 hk)
  have HK := hid hk
  clear hc5 hc6 hc7 hf5 hf6 hB5 hB6 hB7 hbw4 hk HC1 HS1 HC2
  have h0 := Below.refl W7.heap.size W7
  obtain ⟨p00, p01, p02, p03⟩ := HP.out _ h0
  obtain ⟨q00, q01, q02, q03⟩ := HQ.out _ h0
  have FAILS : ok1 = true → ok2 = true → True := fun _ _ => trivial
  clear FAILS
  cases ok1 with
  | false =>
    go_wp2_with fail
    refine (HSM.out _ h0).mono ?_
    rintro e w5 ⟨rfl, hb5⟩
    clear p00 p01 p02 p03 q00 q01 q02 q03 h0
    obtain ⟨p00, p01, p02, p03⟩ := HP.out _ hb5
    obtain ⟨q00, q01, q02, q03⟩ := HQ.out _ hb5
    go_wp2_with fail
    refine (HSM.out _ hb5).mono ?_
    rintro e w6 ⟨rfl, hb6⟩
    have hbf := below_trans HBW.out (below_trans hb5 hb6)
    go_wp2_with fail
    go_ret
    exact ⟨rfl, hbf⟩
  | true =>
    cases ok2 with
    | false =>
      go_wp2_with fail
      refine (HSM.out _ h0).mono ?_
      rintro e w5 ⟨rfl, hb5⟩
      clear p00 p01 p02 p03 q00 q01 q02 q03 h0
      obtain ⟨p00, p01, p02, p03⟩ := HP.out _ hb5
      obtain ⟨q00, q01, q02, q03⟩ := HQ.out _ hb5
      go_wp2_with fail
      refine (HSM.out _ hb5).mono ?_
      rintro e w6 ⟨rfl, hb6⟩
      have hbf := below_trans HBW.out (below_trans hb5 hb6)
      go_wp2_with fail
      go_ret
      exact ⟨rfl, hbf⟩
    | true =>
      have HCZ := hid (HCH.out rfl rfl)
      go_wp2_with fail
      refine (HSM.out _ h0).mono ?_
      rintro e w5 ⟨rfl, hb5⟩
      clear p00 p01 p02 p03 q00 q01 q02 q03 h0
      obtain ⟨p00, p01, p02, p03⟩ := HP.out _ hb5
      obtain ⟨s00, s01, s02, s03⟩ := HSS.out _ hb5
      go_wp2_with fail
      refine (HCM.out _ hb5).mono ?_
      rintro e w6 ⟨vz, fz, rfl, hz, hfz, hb6⟩
      obtain ⟨r0, r1, r2, r3, r4, r5, rfl⟩ := hz.agg
      have hal6 : Below w6.heap.size w6 (w6.alloc (Obj.cells #[.int .i64 r0, .int .i64 r1, .int .i64 r2, .slice r4 r3 r5] 30)) := (Below.refl _ _).alloc (Nat.le_refl _) _
      have hZ := alloc_new w6 (Obj.cells #[.int .i64 r0, .int .i64 r1, .int .i64 r2, .slice r4 r3 r5] 30)
      have hk6 := below_trans (below_trans hb5 hb6) hal6
      replace hz := hz.below hal6
      clear hb5 hb6 p00 p01 p02 p03 s00 s01 s02 s03 hfz
      go_upto_region 11 with (fail)
      generalize hx6 : w6.alloc (Obj.cells #[.int .i64 r0, .int .i64 r1, .int .i64 r2, .slice r4 r3 r5] 30) = W8 at hk6 hZ hz ⊢
      generalize w6.heap.size = R at hZ ⊢
      clear hal6 hx6
      have hk48 := below_trans HK.out hk6
      have HBF := hid (below_trans HBW.out hk6)
      cases okZ with
      | false =>
        go_wp2_with fail
        go_ret
        exact ⟨rfl, HBF.out⟩
      | true =>
        obtain ⟨hct, hch, hcz⟩ := HCZ.out rfl
        have HTY := hid (by
          have q := implCoercionTyped_any Z t1 t4 _ _ _ _ _ _ W8 hz (H1.out.below hk48) (H4.out.below hk48)
          rw [hct] at q
          exact q : Calls Try.prog 19 #[.agg #[.int .i64 r0, .int .i64 r1, .int .i64 r2, .slice r4 r3 r5], .agg #[.int .i64 k1, .slice a1 n1 c1], .agg #[.int .i64 k4, .slice a4 n4 c4]] W8 fun e w' => e = .returned (.bool true) ∧ Below W8.heap.size W8 w')
        have HHG := hid (fun (W : World) (h : Below W8.heap.size W8 W) => implCoercionHeight Z _ _ W (hz.below h) hcz)
        have hh0 := hgtV_bd Z
        have hhd : decide (hgtV Z ≤ 4) = true := by simpa using hch
        obtain ⟨x0, x1⟩ := HA1.out _ hk48
        obtain ⟨x4, x5⟩ := HA4.out _ hk48
        have z0 := cell_of_block (o := 0) hZ
        have z1 := cell_of_block (o := 1) hZ
        have z2 := cell_of_block (o := 2) hZ
        have z3 := cell_of_block (o := 3) hZ
        generalize hgtV Z = HZ at *
        go_wp2_with fail
        refine HTY.out.mono ?_
        rintro e w9 ⟨rfl, hb9⟩
        have y0 := cell_of_block (o := 0) (blk hZ hb9)
        have y1 := cell_of_block (o := 1) (blk hZ hb9)
        have y2 := cell_of_block (o := 2) (blk hZ hb9)
        have y3 := cell_of_block (o := 3) (blk hZ hb9)
        clear x0 x1 x4 x5 z0 z1 z2 z3
        go_wp2_with fail
        refine (HHG.out _ hb9).mono ?_
        rintro e w10 ⟨rfl, hb10⟩
        have hbf := below_trans HBF.out (below_trans hb9 hb10)
        go_wp2_with fail
        go_ret
        exact ⟨by simp [hch], hbf⟩
end Go.Proofs.Ytolhfcpmhhhjpaa
