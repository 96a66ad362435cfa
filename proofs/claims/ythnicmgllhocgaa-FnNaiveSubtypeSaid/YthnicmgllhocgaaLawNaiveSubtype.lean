/- The law on NaiveSubtype: it returns true and writes nothing that was there. -/
import Derived.Test.YthnicmgllhocgaaDr7
import Derived.Test.YthnicmgllhocgaaDrP
import Derived.Test.YthnicmgllhocgaaBlT
import Derived.Test.YthnicmgllhocgaaRelP
namespace Go.Proofs.Ythnicmgllhocgaa
open Go.RowKit

theorem naive_pure (t u : Ty) : precOf t u = (subOf 1 t u && subOf (-1) u t) := by
  unfold precOf subOf
  cases hv : vld t with
  | false => simp
  | true => cases hv2 : vld u with
    | false => simp
    | true => simp only [Bool.true_and]; exact prec_sub 4 t u hv hv2

set_option linter.unusedSimpArgs false in
set_option maxHeartbeats 2000000 in
theorem lawNaiveSubtype (a : Option Addr) (n cap : Nat) (w : World) (hB : BytA w a n) (hn : n ≤ cap) (hm : cap ≤ maxLen) :
    Calls Try.prog 4 #[.slice a n cap] w fun e w' => e = .returned (.bool true) ∧ Below w.heap.size w w' := by
  by_cases hl : (n : Int) > 1048576
  · clear hB
    go_enter Try.func4, Try.ntmps4
    go_wp2_with fail
    go_ret
    exact ⟨rfl, Below.refl _ _⟩
  have HD := hid (drawSub_any a n cap w hB hn hm)
  clear hB
  go_enter Try.func4, Try.ntmps4
  go_wp2_with fail
  refine HD.out.mono ?_
  rintro e w1 ⟨t, u, v1, v2, f1, f2, rfl, -, h1, h2, -, -, hb⟩
  obtain ⟨k1, n1, a1, c1, rfl⟩ := h1.agg
  obtain ⟨k2, n2, a2, c2, rfl⟩ := h2.agg
  have hal : Below w1.heap.size w1 ((w1.alloc (Obj.cells #[.int .i64 k1, .slice a1 n1 c1] 25)).alloc (Obj.cells #[.int .i64 k2, .slice a2 n2 c2] 25)) := ((Below.refl _ _).alloc (Nat.le_refl _) _).alloc (by simp) _
  have HBL := hid (below_trans hb hal)
  have H1 := hid (h1.below hal)
  have H2 := hid (h2.below hal)
  have HC1 := hid (fun (W : World) (h : Below (((w1.alloc (Obj.cells #[.int .i64 k1, .slice a1 n1 c1] 25)).alloc (Obj.cells #[.int .i64 k2, .slice a2 n2 c2] 25))).heap.size ((w1.alloc (Obj.cells #[.int .i64 k1, .slice a1 n1 c1] 25)).alloc (Obj.cells #[.int .i64 k2, .slice a2 n2 c2] 25)) W) => implSubPositive t u _ _ _ _ W (H1.out.below h) (H2.out.below h))
  have HC2 := hid (fun (W : World) (h : Below (((w1.alloc (Obj.cells #[.int .i64 k1, .slice a1 n1 c1] 25)).alloc (Obj.cells #[.int .i64 k2, .slice a2 n2 c2] 25))).heap.size ((w1.alloc (Obj.cells #[.int .i64 k1, .slice a1 n1 c1] 25)).alloc (Obj.cells #[.int .i64 k2, .slice a2 n2 c2] 25)) W) => implSubNegative u t _ _ _ _ W (H2.out.below h) (H1.out.below h))
  have HC3 := hid (fun (W : World) (h : Below (((w1.alloc (Obj.cells #[.int .i64 k1, .slice a1 n1 c1] 25)).alloc (Obj.cells #[.int .i64 k2, .slice a2 n2 c2] 25))).heap.size ((w1.alloc (Obj.cells #[.int .i64 k1, .slice a1 n1 c1] 25)).alloc (Obj.cells #[.int .i64 k2, .slice a2 n2 c2] 25)) W) => specSubPositive t u _ _ _ _ W (H1.out.below h) (H2.out.below h))
  have HC4 := hid (fun (W : World) (h : Below (((w1.alloc (Obj.cells #[.int .i64 k1, .slice a1 n1 c1] 25)).alloc (Obj.cells #[.int .i64 k2, .slice a2 n2 c2] 25))).heap.size ((w1.alloc (Obj.cells #[.int .i64 k1, .slice a1 n1 c1] 25)).alloc (Obj.cells #[.int .i64 k2, .slice a2 n2 c2] 25)) W) => specSubNegative u t _ _ _ _ W (H2.out.below h) (H1.out.below h))
  have HC5 := hid (fun (W : World) (h : Below (((w1.alloc (Obj.cells #[.int .i64 k1, .slice a1 n1 c1] 25)).alloc (Obj.cells #[.int .i64 k2, .slice a2 n2 c2] 25))).heap.size ((w1.alloc (Obj.cells #[.int .i64 k1, .slice a1 n1 c1] 25)).alloc (Obj.cells #[.int .i64 k2, .slice a2 n2 c2] 25)) W) => implPrecise t u _ _ _ _ W (H1.out.below h) (H2.out.below h))
  rw [naive_pure t u] at HC5
  obtain ⟨x0, x1, x2, x3⟩ := box_cells2 (Below.refl (((w1.alloc (Obj.cells #[.int .i64 k1, .slice a1 n1 c1] 25)).alloc (Obj.cells #[.int .i64 k2, .slice a2 n2 c2] 25))).heap.size ((w1.alloc (Obj.cells #[.int .i64 k1, .slice a1 n1 c1] 25)).alloc (Obj.cells #[.int .i64 k2, .slice a2 n2 c2] 25)))
  have h0 := Below.refl (((w1.alloc (Obj.cells #[.int .i64 k1, .slice a1 n1 c1] 25)).alloc (Obj.cells #[.int .i64 k2, .slice a2 n2 c2] 25))).heap.size ((w1.alloc (Obj.cells #[.int .i64 k1, .slice a1 n1 c1] 25)).alloc (Obj.cells #[.int .i64 k2, .slice a2 n2 c2] 25))
  generalize subOf 1 t u = p at *
  generalize subOf (-1) u t = q at *
  clear h1 h2 hb hal H1 H2
  cases p
  · cases q
    · simp only [Bool.false_and, Bool.and_false] at HC5
      go_wp2_with fail
      refine (HC1.out _ h0).mono ?_
      rintro e z1 ⟨rfl, hz1⟩
      have hc1 := below_trans h0 hz1
      replace x0 := cell_keep x0 hz1
      replace x1 := cell_keep x1 hz1
      replace x2 := cell_keep x2 hz1
      replace x3 := cell_keep x3 hz1
      go_wp2_with fail
      refine (HC2.out _ hc1).mono ?_
      rintro e z2 ⟨rfl, hz2⟩
      have hc2 := below_trans hc1 hz2
      replace x0 := cell_keep x0 hz2
      replace x1 := cell_keep x1 hz2
      replace x2 := cell_keep x2 hz2
      replace x3 := cell_keep x3 hz2
      go_wp2_with fail
      refine (HC3.out _ hc2).mono ?_
      rintro e z3 ⟨rfl, hz3⟩
      have hc3 := below_trans hc2 hz3
      replace x0 := cell_keep x0 hz3
      replace x1 := cell_keep x1 hz3
      replace x2 := cell_keep x2 hz3
      replace x3 := cell_keep x3 hz3
      go_wp2_with fail
      refine (HC4.out _ hc3).mono ?_
      rintro e z4 ⟨rfl, hz4⟩
      have hc4 := below_trans hc3 hz4
      replace x0 := cell_keep x0 hz4
      replace x1 := cell_keep x1 hz4
      replace x2 := cell_keep x2 hz4
      replace x3 := cell_keep x3 hz4
      go_wp2_with fail
      refine (HC5.out _ hc4).mono ?_
      rintro e z5 ⟨rfl, hz5⟩
      have hc5 := below_trans hc4 hz5
      replace x0 := cell_keep x0 hz5
      replace x1 := cell_keep x1 hz5
      replace x2 := cell_keep x2 hz5
      replace x3 := cell_keep x3 hz5
      go_wp2_with fail
      go_ret
      exact ⟨rfl, below_trans HBL.out hc5⟩
    · simp only [Bool.false_and, Bool.and_true] at HC5
      go_wp2_with fail
      refine (HC1.out _ h0).mono ?_
      rintro e z6 ⟨rfl, hz6⟩
      have hc6 := below_trans h0 hz6
      replace x0 := cell_keep x0 hz6
      replace x1 := cell_keep x1 hz6
      replace x2 := cell_keep x2 hz6
      replace x3 := cell_keep x3 hz6
      go_wp2_with fail
      refine (HC2.out _ hc6).mono ?_
      rintro e z7 ⟨rfl, hz7⟩
      have hc7 := below_trans hc6 hz7
      replace x0 := cell_keep x0 hz7
      replace x1 := cell_keep x1 hz7
      replace x2 := cell_keep x2 hz7
      replace x3 := cell_keep x3 hz7
      go_wp2_with fail
      refine (HC3.out _ hc7).mono ?_
      rintro e z8 ⟨rfl, hz8⟩
      have hc8 := below_trans hc7 hz8
      replace x0 := cell_keep x0 hz8
      replace x1 := cell_keep x1 hz8
      replace x2 := cell_keep x2 hz8
      replace x3 := cell_keep x3 hz8
      go_wp2_with fail
      refine (HC4.out _ hc8).mono ?_
      rintro e z9 ⟨rfl, hz9⟩
      have hc9 := below_trans hc8 hz9
      replace x0 := cell_keep x0 hz9
      replace x1 := cell_keep x1 hz9
      replace x2 := cell_keep x2 hz9
      replace x3 := cell_keep x3 hz9
      go_wp2_with fail
      refine (HC5.out _ hc9).mono ?_
      rintro e z10 ⟨rfl, hz10⟩
      have hc10 := below_trans hc9 hz10
      replace x0 := cell_keep x0 hz10
      replace x1 := cell_keep x1 hz10
      replace x2 := cell_keep x2 hz10
      replace x3 := cell_keep x3 hz10
      go_wp2_with fail
      go_ret
      exact ⟨rfl, below_trans HBL.out hc10⟩
  · cases q
    · simp only [Bool.and_false] at HC5
      go_wp2_with fail
      refine (HC1.out _ h0).mono ?_
      rintro e z11 ⟨rfl, hz11⟩
      have hc11 := below_trans h0 hz11
      replace x0 := cell_keep x0 hz11
      replace x1 := cell_keep x1 hz11
      replace x2 := cell_keep x2 hz11
      replace x3 := cell_keep x3 hz11
      go_wp2_with fail
      refine (HC2.out _ hc11).mono ?_
      rintro e z12 ⟨rfl, hz12⟩
      have hc12 := below_trans hc11 hz12
      replace x0 := cell_keep x0 hz12
      replace x1 := cell_keep x1 hz12
      replace x2 := cell_keep x2 hz12
      replace x3 := cell_keep x3 hz12
      go_wp2_with fail
      refine (HC3.out _ hc12).mono ?_
      rintro e z13 ⟨rfl, hz13⟩
      have hc13 := below_trans hc12 hz13
      replace x0 := cell_keep x0 hz13
      replace x1 := cell_keep x1 hz13
      replace x2 := cell_keep x2 hz13
      replace x3 := cell_keep x3 hz13
      go_wp2_with fail
      refine (HC4.out _ hc13).mono ?_
      rintro e z14 ⟨rfl, hz14⟩
      have hc14 := below_trans hc13 hz14
      replace x0 := cell_keep x0 hz14
      replace x1 := cell_keep x1 hz14
      replace x2 := cell_keep x2 hz14
      replace x3 := cell_keep x3 hz14
      go_wp2_with fail
      refine (HC5.out _ hc14).mono ?_
      rintro e z15 ⟨rfl, hz15⟩
      have hc15 := below_trans hc14 hz15
      replace x0 := cell_keep x0 hz15
      replace x1 := cell_keep x1 hz15
      replace x2 := cell_keep x2 hz15
      replace x3 := cell_keep x3 hz15
      go_wp2_with fail
      go_ret
      exact ⟨rfl, below_trans HBL.out hc15⟩
    · simp only [Bool.and_true] at HC5
      go_wp2_with fail
      refine (HC1.out _ h0).mono ?_
      rintro e z16 ⟨rfl, hz16⟩
      have hc16 := below_trans h0 hz16
      replace x0 := cell_keep x0 hz16
      replace x1 := cell_keep x1 hz16
      replace x2 := cell_keep x2 hz16
      replace x3 := cell_keep x3 hz16
      go_wp2_with fail
      refine (HC2.out _ hc16).mono ?_
      rintro e z17 ⟨rfl, hz17⟩
      have hc17 := below_trans hc16 hz17
      replace x0 := cell_keep x0 hz17
      replace x1 := cell_keep x1 hz17
      replace x2 := cell_keep x2 hz17
      replace x3 := cell_keep x3 hz17
      go_wp2_with fail
      refine (HC3.out _ hc17).mono ?_
      rintro e z18 ⟨rfl, hz18⟩
      have hc18 := below_trans hc17 hz18
      replace x0 := cell_keep x0 hz18
      replace x1 := cell_keep x1 hz18
      replace x2 := cell_keep x2 hz18
      replace x3 := cell_keep x3 hz18
      go_wp2_with fail
      refine (HC4.out _ hc18).mono ?_
      rintro e z19 ⟨rfl, hz19⟩
      have hc19 := below_trans hc18 hz19
      replace x0 := cell_keep x0 hz19
      replace x1 := cell_keep x1 hz19
      replace x2 := cell_keep x2 hz19
      replace x3 := cell_keep x3 hz19
      go_wp2_with fail
      refine (HC5.out _ hc19).mono ?_
      rintro e z20 ⟨rfl, hz20⟩
      have hc20 := below_trans hc19 hz20
      replace x0 := cell_keep x0 hz20
      replace x1 := cell_keep x1 hz20
      replace x2 := cell_keep x2 hz20
      replace x3 := cell_keep x3 hz20
      go_wp2_with fail
      go_ret
      exact ⟨rfl, below_trans HBL.out hc20⟩
end Go.Proofs.Ythnicmgllhocgaa
