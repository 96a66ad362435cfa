/- The law on SubtypeOrder: it returns true and writes nothing that was there. -/
import Derived.Test.YthnicmgllhocgaaDr7
import Derived.Test.YthnicmgllhocgaaDrP
import Derived.Test.YthnicmgllhocgaaBlT
import Derived.Test.YthnicmgllhocgaaRelI
namespace Go.Proofs.Ythnicmgllhocgaa
open Go.RowKit

theorem order_pure (a b c d : Ty) (hp : subOf 0 a b = true) : (subOf 0 b c = true → subOf 0 a c = true) ∧ (subOf 0 d a = true → subOf 0 d b = true) ∧ consOf a b = true := by
  simp only [subOf, consOf, Bool.and_eq_true] at *
  obtain ⟨⟨ha, hb⟩, h⟩ := hp
  exact ⟨fun h2 => ⟨⟨ha, h2.1.2⟩, sub_trans 4 a b c ha hb h2.1.2 h h2.2⟩, fun h2 => ⟨⟨h2.1.1, hb⟩, sub_trans 4 d a b h2.1.1 ha hb h2.2 h⟩, ⟨⟨ha, hb⟩, sub_cons 4 a b ha hb h⟩⟩

set_option maxHeartbeats 4000000 in
theorem lawSubtypeOrder (a0 : Option Addr) (n0 cap0 : Nat) (a9 : Option Addr) (n9 cap9 : Nat) (w : World) (hB : BytA w a0 n0) (hn : n0 ≤ cap0) (hm : cap0 ≤ maxLen) (hB9 : BytA w a9 n9) (hn9 : n9 ≤ cap9) (hm9 : cap9 ≤ maxLen) :
    Calls Try.prog 5 #[.slice a0 n0 cap0, .slice a9 n9 cap9] w fun e w' => e = .returned (.bool true) ∧ Below w.heap.size w w' := by
  by_cases hl : (n0 : Int) > 1048576
  · clear hB hB9
    go_enter Try.func5, Try.ntmps5
    go_wp2_with fail
    go_ret
    exact ⟨rfl, Below.refl _ _⟩
  by_cases hl9 : (n9 : Int) > 1048576
  · clear hB hB9
    go_enter Try.func5, Try.ntmps5
    go_wp2_with fail
    go_ret
    exact ⟨rfl, Below.refl _ _⟩
  have HD := hid (drawSubtype_any a0 n0 cap0 w hB hn hm)
  have HD9 := hid (fun (W : World) (h : Below w.heap.size w W) => drawSubtype_any a9 n9 cap9 W (hB9.below h) hn9 hm9)
  clear hB hB9
  go_enter Try.func5, Try.ntmps5
  go_wp2_with fail
  refine HD.out.mono ?_
  rintro e w1 ⟨t1, t2, v1, v2, f1, f2, rfl, -, h1, h2, -, -, hb⟩
  obtain ⟨k1, n1, a1, c1, rfl⟩ := h1.agg
  obtain ⟨k2, n2, a2, c2, rfl⟩ := h2.agg
  have hal : Below w1.heap.size w1 ((w1.alloc (Obj.cells #[.int .i64 k1, .slice a1 n1 c1] 25)).alloc (Obj.cells #[.int .i64 k2, .slice a2 n2 c2] 25)) := ((Below.refl _ _).alloc (Nat.le_refl _) _).alloc (by simp) _
  have HB1 := hid (below_trans hb hal)
  have HA1 := hid (And.intro (h1.below hal) (h2.below hal))
  have HX := hid (box_cells2 (Below.refl (((w1.alloc (Obj.cells #[.int .i64 k1, .slice a1 n1 c1] 25)).alloc (Obj.cells #[.int .i64 k2, .slice a2 n2 c2] 25))).heap.size ((w1.alloc (Obj.cells #[.int .i64 k1, .slice a1 n1 c1] 25)).alloc (Obj.cells #[.int .i64 k2, .slice a2 n2 c2] 25))))
  clear h1 h2 hb hal
  go_wp2_with fail
  refine (HD9.out _ HB1.out).mono ?_
  rintro e w2 ⟨t3, t4, v3, v4, f3, f4, rfl, -, h3, h4, -, -, hb⟩
  obtain ⟨k3, n3, a3, c3, rfl⟩ := h3.agg
  obtain ⟨k4, n4, a4, c4, rfl⟩ := h4.agg
  have hal : Below w2.heap.size w2 ((w2.alloc (Obj.cells #[.int .i64 k3, .slice a3 n3 c3] 25)).alloc (Obj.cells #[.int .i64 k4, .slice a4 n4 c4] 25)) := ((Below.refl _ _).alloc (Nat.le_refl _) _).alloc (by simp) _
  have hbb := below_trans hb hal
  have HBL := hid (below_trans HB1.out hbb)
  have H1 := hid (HA1.out.1.below hbb)
  have H2 := hid (HA1.out.2.below hbb)
  have H3 := hid (h3.below hal)
  have H4 := hid (h4.below hal)
  obtain ⟨x0, x1, x2, x3⟩ := HX.out
  replace x0 := cell_keep x0 hbb
  replace x1 := cell_keep x1 hbb
  replace x2 := cell_keep x2 hbb
  replace x3 := cell_keep x3 hbb
  obtain ⟨x4, x5, x6, x7⟩ := box_cells2 (Below.refl (((w2.alloc (Obj.cells #[.int .i64 k3, .slice a3 n3 c3] 25)).alloc (Obj.cells #[.int .i64 k4, .slice a4 n4 c4] 25))).heap.size ((w2.alloc (Obj.cells #[.int .i64 k3, .slice a3 n3 c3] 25)).alloc (Obj.cells #[.int .i64 k4, .slice a4 n4 c4] 25)))
  have h0 := Below.refl (((w2.alloc (Obj.cells #[.int .i64 k3, .slice a3 n3 c3] 25)).alloc (Obj.cells #[.int .i64 k4, .slice a4 n4 c4] 25))).heap.size ((w2.alloc (Obj.cells #[.int .i64 k3, .slice a3 n3 c3] 25)).alloc (Obj.cells #[.int .i64 k4, .slice a4 n4 c4] 25))
  have HP := hid (fun (W : World) (h : Below (((w2.alloc (Obj.cells #[.int .i64 k3, .slice a3 n3 c3] 25)).alloc (Obj.cells #[.int .i64 k4, .slice a4 n4 c4] 25))).heap.size ((w2.alloc (Obj.cells #[.int .i64 k3, .slice a3 n3 c3] 25)).alloc (Obj.cells #[.int .i64 k4, .slice a4 n4 c4] 25)) W) => implSubtype t1 t2 _ _ _ _ W (H1.out.below h) (H2.out.below h))
  have HS := hid (fun (W : World) (h : Below (((w2.alloc (Obj.cells #[.int .i64 k3, .slice a3 n3 c3] 25)).alloc (Obj.cells #[.int .i64 k4, .slice a4 n4 c4] 25))).heap.size ((w2.alloc (Obj.cells #[.int .i64 k3, .slice a3 n3 c3] 25)).alloc (Obj.cells #[.int .i64 k4, .slice a4 n4 c4] 25)) W) => specSubtype t1 t2 _ _ _ _ W (H1.out.below h) (H2.out.below h))
  have HQ1 := hid (fun (W : World) (h : Below (((w2.alloc (Obj.cells #[.int .i64 k3, .slice a3 n3 c3] 25)).alloc (Obj.cells #[.int .i64 k4, .slice a4 n4 c4] 25))).heap.size ((w2.alloc (Obj.cells #[.int .i64 k3, .slice a3 n3 c3] 25)).alloc (Obj.cells #[.int .i64 k4, .slice a4 n4 c4] 25)) W) => implSubtype t2 t3 _ _ _ _ W (H2.out.below h) (H3.out.below h))
  have HQ2 := hid (fun (W : World) (h : Below (((w2.alloc (Obj.cells #[.int .i64 k3, .slice a3 n3 c3] 25)).alloc (Obj.cells #[.int .i64 k4, .slice a4 n4 c4] 25))).heap.size ((w2.alloc (Obj.cells #[.int .i64 k3, .slice a3 n3 c3] 25)).alloc (Obj.cells #[.int .i64 k4, .slice a4 n4 c4] 25)) W) => implSubtype t1 t3 _ _ _ _ W (H1.out.below h) (H3.out.below h))
  have HQ3 := hid (fun (W : World) (h : Below (((w2.alloc (Obj.cells #[.int .i64 k3, .slice a3 n3 c3] 25)).alloc (Obj.cells #[.int .i64 k4, .slice a4 n4 c4] 25))).heap.size ((w2.alloc (Obj.cells #[.int .i64 k3, .slice a3 n3 c3] 25)).alloc (Obj.cells #[.int .i64 k4, .slice a4 n4 c4] 25)) W) => implSubtype t4 t1 _ _ _ _ W (H4.out.below h) (H1.out.below h))
  have HQ4 := hid (fun (W : World) (h : Below (((w2.alloc (Obj.cells #[.int .i64 k3, .slice a3 n3 c3] 25)).alloc (Obj.cells #[.int .i64 k4, .slice a4 n4 c4] 25))).heap.size ((w2.alloc (Obj.cells #[.int .i64 k3, .slice a3 n3 c3] 25)).alloc (Obj.cells #[.int .i64 k4, .slice a4 n4 c4] 25)) W) => implSubtype t4 t2 _ _ _ _ W (H4.out.below h) (H2.out.below h))
  have HC := hid (fun (W : World) (h : Below (((w2.alloc (Obj.cells #[.int .i64 k3, .slice a3 n3 c3] 25)).alloc (Obj.cells #[.int .i64 k4, .slice a4 n4 c4] 25))).heap.size ((w2.alloc (Obj.cells #[.int .i64 k3, .slice a3 n3 c3] 25)).alloc (Obj.cells #[.int .i64 k4, .slice a4 n4 c4] 25)) W) => implConsistent t1 t2 _ _ _ _ W (H1.out.below h) (H2.out.below h))
  have HT1 := hid (fun hp => (order_pure t1 t2 t3 t4 hp).1)
  have HT2 := hid (fun hp => (order_pure t1 t2 t3 t4 hp).2.1)
  have HT3 := hid (fun hp => (order_pure t1 t2 t3 t4 hp).2.2)
  generalize subOf 0 t1 t2 = p at *
  generalize subOf 0 t2 t3 = q1 at *
  generalize subOf 0 t1 t3 = q2 at *
  generalize subOf 0 t4 t1 = q3 at *
  generalize subOf 0 t4 t2 = q4 at *
  clear h3 h4 hb hal hbb H1 H2 H3 H4 HX
  cases p
  · go_wp2_with fail
    refine (HP.out _ h0).mono ?_
    rintro e z1 ⟨rfl, hz1⟩
    have hc1 := below_trans h0 hz1
    replace x0 := cell_keep x0 hz1
    replace x1 := cell_keep x1 hz1
    replace x2 := cell_keep x2 hz1
    replace x3 := cell_keep x3 hz1
    replace x4 := cell_keep x4 hz1
    replace x5 := cell_keep x5 hz1
    replace x6 := cell_keep x6 hz1
    replace x7 := cell_keep x7 hz1
    go_wp2_with fail
    refine (HS.out _ hc1).mono ?_
    rintro e z2 ⟨rfl, hz2⟩
    have hc2 := below_trans hc1 hz2
    replace x0 := cell_keep x0 hz2
    replace x1 := cell_keep x1 hz2
    replace x2 := cell_keep x2 hz2
    replace x3 := cell_keep x3 hz2
    replace x4 := cell_keep x4 hz2
    replace x5 := cell_keep x5 hz2
    replace x6 := cell_keep x6 hz2
    replace x7 := cell_keep x7 hz2
    go_wp2_with fail
    refine (HS.out _ hc2).mono ?_
    rintro e z3 ⟨rfl, hz3⟩
    have hc3 := below_trans hc2 hz3
    replace x0 := cell_keep x0 hz3
    replace x1 := cell_keep x1 hz3
    replace x2 := cell_keep x2 hz3
    replace x3 := cell_keep x3 hz3
    replace x4 := cell_keep x4 hz3
    replace x5 := cell_keep x5 hz3
    replace x6 := cell_keep x6 hz3
    replace x7 := cell_keep x7 hz3
    go_wp2_with fail
    go_ret
    exact ⟨rfl, below_trans HBL.out hc3⟩
  · have HQ12 := hid (fun h => HT1.out rfl h)
    have HQ34 := hid (fun h => HT2.out rfl h)
    have HCO := hid (HT3.out rfl)
    rw [HCO.out] at HC
    cases q1
    · cases q3
      · go_wp2_with fail
        refine (HP.out _ h0).mono ?_
        rintro e z4 ⟨rfl, hz4⟩
        have hc4 := below_trans h0 hz4
        replace x0 := cell_keep x0 hz4
        replace x1 := cell_keep x1 hz4
        replace x2 := cell_keep x2 hz4
        replace x3 := cell_keep x3 hz4
        replace x4 := cell_keep x4 hz4
        replace x5 := cell_keep x5 hz4
        replace x6 := cell_keep x6 hz4
        replace x7 := cell_keep x7 hz4
        go_wp2_with fail
        refine (HS.out _ hc4).mono ?_
        rintro e z5 ⟨rfl, hz5⟩
        have hc5 := below_trans hc4 hz5
        replace x0 := cell_keep x0 hz5
        replace x1 := cell_keep x1 hz5
        replace x2 := cell_keep x2 hz5
        replace x3 := cell_keep x3 hz5
        replace x4 := cell_keep x4 hz5
        replace x5 := cell_keep x5 hz5
        replace x6 := cell_keep x6 hz5
        replace x7 := cell_keep x7 hz5
        go_wp2_with fail
        refine (HQ1.out _ hc5).mono ?_
        rintro e z6 ⟨rfl, hz6⟩
        have hc6 := below_trans hc5 hz6
        replace x0 := cell_keep x0 hz6
        replace x1 := cell_keep x1 hz6
        replace x2 := cell_keep x2 hz6
        replace x3 := cell_keep x3 hz6
        replace x4 := cell_keep x4 hz6
        replace x5 := cell_keep x5 hz6
        replace x6 := cell_keep x6 hz6
        replace x7 := cell_keep x7 hz6
        go_wp2_with fail
        refine (HQ3.out _ hc6).mono ?_
        rintro e z7 ⟨rfl, hz7⟩
        have hc7 := below_trans hc6 hz7
        replace x0 := cell_keep x0 hz7
        replace x1 := cell_keep x1 hz7
        replace x2 := cell_keep x2 hz7
        replace x3 := cell_keep x3 hz7
        replace x4 := cell_keep x4 hz7
        replace x5 := cell_keep x5 hz7
        replace x6 := cell_keep x6 hz7
        replace x7 := cell_keep x7 hz7
        go_wp2_with fail
        refine (HC.out _ hc7).mono ?_
        rintro e z8 ⟨rfl, hz8⟩
        have hc8 := below_trans hc7 hz8
        replace x0 := cell_keep x0 hz8
        replace x1 := cell_keep x1 hz8
        replace x2 := cell_keep x2 hz8
        replace x3 := cell_keep x3 hz8
        replace x4 := cell_keep x4 hz8
        replace x5 := cell_keep x5 hz8
        replace x6 := cell_keep x6 hz8
        replace x7 := cell_keep x7 hz8
        go_wp2_with fail
        go_ret
        exact ⟨rfl, below_trans HBL.out hc8⟩
      · have e4 := HQ34.out rfl
        subst e4
        go_wp2_with fail
        refine (HP.out _ h0).mono ?_
        rintro e z9 ⟨rfl, hz9⟩
        have hc9 := below_trans h0 hz9
        replace x0 := cell_keep x0 hz9
        replace x1 := cell_keep x1 hz9
        replace x2 := cell_keep x2 hz9
        replace x3 := cell_keep x3 hz9
        replace x4 := cell_keep x4 hz9
        replace x5 := cell_keep x5 hz9
        replace x6 := cell_keep x6 hz9
        replace x7 := cell_keep x7 hz9
        go_wp2_with fail
        refine (HS.out _ hc9).mono ?_
        rintro e z10 ⟨rfl, hz10⟩
        have hc10 := below_trans hc9 hz10
        replace x0 := cell_keep x0 hz10
        replace x1 := cell_keep x1 hz10
        replace x2 := cell_keep x2 hz10
        replace x3 := cell_keep x3 hz10
        replace x4 := cell_keep x4 hz10
        replace x5 := cell_keep x5 hz10
        replace x6 := cell_keep x6 hz10
        replace x7 := cell_keep x7 hz10
        go_wp2_with fail
        refine (HQ1.out _ hc10).mono ?_
        rintro e z11 ⟨rfl, hz11⟩
        have hc11 := below_trans hc10 hz11
        replace x0 := cell_keep x0 hz11
        replace x1 := cell_keep x1 hz11
        replace x2 := cell_keep x2 hz11
        replace x3 := cell_keep x3 hz11
        replace x4 := cell_keep x4 hz11
        replace x5 := cell_keep x5 hz11
        replace x6 := cell_keep x6 hz11
        replace x7 := cell_keep x7 hz11
        go_wp2_with fail
        refine (HQ3.out _ hc11).mono ?_
        rintro e z12 ⟨rfl, hz12⟩
        have hc12 := below_trans hc11 hz12
        replace x0 := cell_keep x0 hz12
        replace x1 := cell_keep x1 hz12
        replace x2 := cell_keep x2 hz12
        replace x3 := cell_keep x3 hz12
        replace x4 := cell_keep x4 hz12
        replace x5 := cell_keep x5 hz12
        replace x6 := cell_keep x6 hz12
        replace x7 := cell_keep x7 hz12
        go_wp2_with fail
        refine (HQ4.out _ hc12).mono ?_
        rintro e z13 ⟨rfl, hz13⟩
        have hc13 := below_trans hc12 hz13
        replace x0 := cell_keep x0 hz13
        replace x1 := cell_keep x1 hz13
        replace x2 := cell_keep x2 hz13
        replace x3 := cell_keep x3 hz13
        replace x4 := cell_keep x4 hz13
        replace x5 := cell_keep x5 hz13
        replace x6 := cell_keep x6 hz13
        replace x7 := cell_keep x7 hz13
        go_wp2_with fail
        refine (HC.out _ hc13).mono ?_
        rintro e z14 ⟨rfl, hz14⟩
        have hc14 := below_trans hc13 hz14
        replace x0 := cell_keep x0 hz14
        replace x1 := cell_keep x1 hz14
        replace x2 := cell_keep x2 hz14
        replace x3 := cell_keep x3 hz14
        replace x4 := cell_keep x4 hz14
        replace x5 := cell_keep x5 hz14
        replace x6 := cell_keep x6 hz14
        replace x7 := cell_keep x7 hz14
        go_wp2_with fail
        go_ret
        exact ⟨rfl, below_trans HBL.out hc14⟩
    · have e2 := HQ12.out rfl
      subst e2
      cases q3
      · go_wp2_with fail
        refine (HP.out _ h0).mono ?_
        rintro e z15 ⟨rfl, hz15⟩
        have hc15 := below_trans h0 hz15
        replace x0 := cell_keep x0 hz15
        replace x1 := cell_keep x1 hz15
        replace x2 := cell_keep x2 hz15
        replace x3 := cell_keep x3 hz15
        replace x4 := cell_keep x4 hz15
        replace x5 := cell_keep x5 hz15
        replace x6 := cell_keep x6 hz15
        replace x7 := cell_keep x7 hz15
        go_wp2_with fail
        refine (HS.out _ hc15).mono ?_
        rintro e z16 ⟨rfl, hz16⟩
        have hc16 := below_trans hc15 hz16
        replace x0 := cell_keep x0 hz16
        replace x1 := cell_keep x1 hz16
        replace x2 := cell_keep x2 hz16
        replace x3 := cell_keep x3 hz16
        replace x4 := cell_keep x4 hz16
        replace x5 := cell_keep x5 hz16
        replace x6 := cell_keep x6 hz16
        replace x7 := cell_keep x7 hz16
        go_wp2_with fail
        refine (HQ1.out _ hc16).mono ?_
        rintro e z17 ⟨rfl, hz17⟩
        have hc17 := below_trans hc16 hz17
        replace x0 := cell_keep x0 hz17
        replace x1 := cell_keep x1 hz17
        replace x2 := cell_keep x2 hz17
        replace x3 := cell_keep x3 hz17
        replace x4 := cell_keep x4 hz17
        replace x5 := cell_keep x5 hz17
        replace x6 := cell_keep x6 hz17
        replace x7 := cell_keep x7 hz17
        go_wp2_with fail
        refine (HQ2.out _ hc17).mono ?_
        rintro e z18 ⟨rfl, hz18⟩
        have hc18 := below_trans hc17 hz18
        replace x0 := cell_keep x0 hz18
        replace x1 := cell_keep x1 hz18
        replace x2 := cell_keep x2 hz18
        replace x3 := cell_keep x3 hz18
        replace x4 := cell_keep x4 hz18
        replace x5 := cell_keep x5 hz18
        replace x6 := cell_keep x6 hz18
        replace x7 := cell_keep x7 hz18
        go_wp2_with fail
        refine (HQ3.out _ hc18).mono ?_
        rintro e z19 ⟨rfl, hz19⟩
        have hc19 := below_trans hc18 hz19
        replace x0 := cell_keep x0 hz19
        replace x1 := cell_keep x1 hz19
        replace x2 := cell_keep x2 hz19
        replace x3 := cell_keep x3 hz19
        replace x4 := cell_keep x4 hz19
        replace x5 := cell_keep x5 hz19
        replace x6 := cell_keep x6 hz19
        replace x7 := cell_keep x7 hz19
        go_wp2_with fail
        refine (HC.out _ hc19).mono ?_
        rintro e z20 ⟨rfl, hz20⟩
        have hc20 := below_trans hc19 hz20
        replace x0 := cell_keep x0 hz20
        replace x1 := cell_keep x1 hz20
        replace x2 := cell_keep x2 hz20
        replace x3 := cell_keep x3 hz20
        replace x4 := cell_keep x4 hz20
        replace x5 := cell_keep x5 hz20
        replace x6 := cell_keep x6 hz20
        replace x7 := cell_keep x7 hz20
        go_wp2_with fail
        go_ret
        exact ⟨rfl, below_trans HBL.out hc20⟩
      · have e4 := HQ34.out rfl
        subst e4
        go_wp2_with fail
        refine (HP.out _ h0).mono ?_
        rintro e z21 ⟨rfl, hz21⟩
        have hc21 := below_trans h0 hz21
        replace x0 := cell_keep x0 hz21
        replace x1 := cell_keep x1 hz21
        replace x2 := cell_keep x2 hz21
        replace x3 := cell_keep x3 hz21
        replace x4 := cell_keep x4 hz21
        replace x5 := cell_keep x5 hz21
        replace x6 := cell_keep x6 hz21
        replace x7 := cell_keep x7 hz21
        go_wp2_with fail
        refine (HS.out _ hc21).mono ?_
        rintro e z22 ⟨rfl, hz22⟩
        have hc22 := below_trans hc21 hz22
        replace x0 := cell_keep x0 hz22
        replace x1 := cell_keep x1 hz22
        replace x2 := cell_keep x2 hz22
        replace x3 := cell_keep x3 hz22
        replace x4 := cell_keep x4 hz22
        replace x5 := cell_keep x5 hz22
        replace x6 := cell_keep x6 hz22
        replace x7 := cell_keep x7 hz22
        go_wp2_with fail
        refine (HQ1.out _ hc22).mono ?_
        rintro e z23 ⟨rfl, hz23⟩
        have hc23 := below_trans hc22 hz23
        replace x0 := cell_keep x0 hz23
        replace x1 := cell_keep x1 hz23
        replace x2 := cell_keep x2 hz23
        replace x3 := cell_keep x3 hz23
        replace x4 := cell_keep x4 hz23
        replace x5 := cell_keep x5 hz23
        replace x6 := cell_keep x6 hz23
        replace x7 := cell_keep x7 hz23
        go_wp2_with fail
        refine (HQ2.out _ hc23).mono ?_
        rintro e z24 ⟨rfl, hz24⟩
        have hc24 := below_trans hc23 hz24
        replace x0 := cell_keep x0 hz24
        replace x1 := cell_keep x1 hz24
        replace x2 := cell_keep x2 hz24
        replace x3 := cell_keep x3 hz24
        replace x4 := cell_keep x4 hz24
        replace x5 := cell_keep x5 hz24
        replace x6 := cell_keep x6 hz24
        replace x7 := cell_keep x7 hz24
        go_wp2_with fail
        refine (HQ3.out _ hc24).mono ?_
        rintro e z25 ⟨rfl, hz25⟩
        have hc25 := below_trans hc24 hz25
        replace x0 := cell_keep x0 hz25
        replace x1 := cell_keep x1 hz25
        replace x2 := cell_keep x2 hz25
        replace x3 := cell_keep x3 hz25
        replace x4 := cell_keep x4 hz25
        replace x5 := cell_keep x5 hz25
        replace x6 := cell_keep x6 hz25
        replace x7 := cell_keep x7 hz25
        go_wp2_with fail
        refine (HQ4.out _ hc25).mono ?_
        rintro e z26 ⟨rfl, hz26⟩
        have hc26 := below_trans hc25 hz26
        replace x0 := cell_keep x0 hz26
        replace x1 := cell_keep x1 hz26
        replace x2 := cell_keep x2 hz26
        replace x3 := cell_keep x3 hz26
        replace x4 := cell_keep x4 hz26
        replace x5 := cell_keep x5 hz26
        replace x6 := cell_keep x6 hz26
        replace x7 := cell_keep x7 hz26
        go_wp2_with fail
        refine (HC.out _ hc26).mono ?_
        rintro e z27 ⟨rfl, hz27⟩
        have hc27 := below_trans hc26 hz27
        replace x0 := cell_keep x0 hz27
        replace x1 := cell_keep x1 hz27
        replace x2 := cell_keep x2 hz27
        replace x3 := cell_keep x3 hz27
        replace x4 := cell_keep x4 hz27
        replace x5 := cell_keep x5 hz27
        replace x6 := cell_keep x6 hz27
        replace x7 := cell_keep x7 hz27
        go_wp2_with fail
        go_ret
        exact ⟨rfl, below_trans HBL.out hc27⟩
end Go.Proofs.Ythnicmgllhocgaa
