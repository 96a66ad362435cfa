/- The program's writeCoercion: functions and pairs. -/
import Derived.Test.YtgekfnodmgkdaaaDoorFcW
namespace Go.Proofs.YtgekfnodmgkdaaaDoor
open Go.RowKit

set_option linter.unusedSimpArgs false in
set_option linter.unusedVariables false in
set_option maxRecDepth 100000 in
set_option maxHeartbeats 4000000 in
theorem wc_two2 (d : Nat) (ih : WcX d) (x y : Co) (v : Value) (fp : List Nat) (B b : Nat) (acc : List UInt8) (w : World) (hd : d + 1 ≤ 9) (hs : shpK (d + 1) (.mk 2 0 0 [x, y]) = true) (hat : Co.At w (.mk 2 0 0 [x, y]) v fp) (hfp : ∀ x ∈ fp, x < B) (htab : Lib.TabBelow Tryd.prog B w "internal/strconv.uint64pow10" .u64 Lib.pow10Tab) (hBw : B ≤ w.heap.size) (hbw : b < w.heap.size) (hacc : acc.length + 60 * 2 ^ (d + 1) ≤ 1099511627776)
    (hI : Lib.IsBuilderF 83 5 B b (Lib.byteCells acc) w) : Calls Tryd.prog 62 #[.pointer (some ⟨b, 0, none⟩), v] w (Wrote B b acc (cx (d + 1) (.mk 2 0 0 [x, y])) w) := by
  have HIH := hid ih
  clear ih
  obtain ⟨s, rfl, hsl⟩ := Co.at_mk.1 hat
  obtain ⟨hn, hts⟩ := shpK_node hs
  obtain ⟨bb, o, cap, k1, g1, l1, n1, a1, c1, k2, g2, l2, n2, a2, c2, f1, f2, rfl, hblt, d0, d1, d2, d3, d4, d5, d6, d7, hx1, hy1, hff, hcap⟩ := hsl.two
  have hbB : bb < B := hfp bb (by rw [hff]; simp)
  have HFX := hid (show ∀ z ∈ f1, z < B from fun z hz => hfp z (by rw [hff]; simp [hz]))
  have HFY := hid (show ∀ z ∈ f2, z < B from fun z hz => hfp z (by rw [hff]; simp [hz]))
  have hb0 : Below B w (w.alloc (Obj.cells #[.int .i64 2, .int .i64 0, .int .i64 0, .slice (some ⟨bb, o, none⟩) 2 cap] 45)) := (Below.refl _ _).alloc hBw _
  have HB := hid hb0
  have HI0 := hid (hI.alloc (Obj.cells #[.int .i64 2, .int .i64 0, .int .i64 0, .slice (some ⟨bb, o, none⟩) 2 cap] 45))
  have HK := hid ((Lib.OthersKept.refl 5 (some b) w).alloc (Obj.cells #[.int .i64 2, .int .i64 0, .int .i64 0, .slice (some ⟨bb, o, none⟩) 2 cap] 45))
  have HB0 := hid (Below.refl B (w.alloc (Obj.cells #[.int .i64 2, .int .i64 0, .int .i64 0, .slice (some ⟨bb, o, none⟩) 2 cap] 45)))
  have HK0 := hid (Lib.OthersKept.refl 5 (some b) (w.alloc (Obj.cells #[.int .i64 2, .int .i64 0, .int .i64 0, .slice (some ⟨bb, o, none⟩) 2 cap] 45)))
  have HC := hid hacc
  have HP : Hid (2 ^ (d + 1) = 2 * 2 ^ d ∧ 0 < 2 ^ d) := hid ⟨by rw [Nat.pow_succ]; omega, Nat.pow_pos (by omega)⟩
  have HTAB := hid htab
  have HX := hid (hx1.belowB hb0 HFX.out)
  have HY := hid (hy1.belowB hb0 HFY.out)
  have HA := hid (hat.belowB hb0 hfp)
  have HFP := hid hfp
  have HE := hid (And.intro (cell_keepB d0 hb0 hbB) (And.intro (cell_keepB d1 hb0 hbB) (And.intro (cell_keepB d2 hb0 hbB) (And.intro (cell_keepB d3 hb0 hbB) (And.intro (cell_keepB d4 hb0 hbB) (And.intro (cell_keepB d5 hb0 hbB) (And.intro (cell_keepB d6 hb0 hbB) (cell_keepB d7 hb0 hbB))))))))
  have HSX := hid (hts x (by simp))
  have HSY := hid (hts y (by simp))
  have HL := hid (And.intro (cx_len d x HSX.out) (cx_len d y HSY.out))
  have HTW := hid (tagWf_shp hs)
  have HTG := hid (show tagC (.mk 2 0 0 [x, y]) = 4 by simp [tagC])
  have HT := hid (show cx (d + 1) (.mk 2 0 0 [x, y]) = 40 :: (cx d x ++ (62 :: (cx d y ++ [41]))) by simp [cx, sgn])
  clear hs hat hsl hn hts hfp htab hacc hI hb0 hx1 hy1 hff d0 d1 d2 d3 d4 d5 d6 d7
  go_enter Tryd.func62, Tryd.ntmps62
  obtain ⟨x0, x1, x2, x3⟩ := okept_box4 HK0.out hbw
  have e0 := cell_keepB (HE.out.1) HB0.out hbB
  have e1 := cell_keepB (HE.out.2.1) HB0.out hbB
  have e2 := cell_keepB (HE.out.2.2.1) HB0.out hbB
  have e3 := cell_keepB (HE.out.2.2.2.1) HB0.out hbB
  have e4 := cell_keepB (HE.out.2.2.2.2.1) HB0.out hbB
  have e5 := cell_keepB (HE.out.2.2.2.2.2.1) HB0.out hbB
  have e6 := cell_keepB (HE.out.2.2.2.2.2.2.1) HB0.out hbB
  have e7 := cell_keepB (HE.out.2.2.2.2.2.2.2) HB0.out hbB
  go_wp2_with fail
  refine (write1 B b _ 40 _ HI0.out (by have := HC.out; have := HP.out; have := HL.out; simp <;> omega) (by have := HB.out.size; have := HB0.out.size; omega)).mono ?_
  rintro e wz ⟨rfl, hi, hb, hk⟩
  have HI1 := hid hi
  have HB1 := hid (HB0.out.trans hb)
  have HK1 := hid (HK0.out.trans hk)
  clear hi hb hk x0 x1 x2 x3 e0 e1 e2 e3 e4 e5 e6 e7 HI0 HB0 HK0
  obtain ⟨x0, x1, x2, x3⟩ := okept_box4 HK1.out hbw
  have e0 := cell_keepB (HE.out.1) HB1.out hbB
  have e1 := cell_keepB (HE.out.2.1) HB1.out hbB
  have e2 := cell_keepB (HE.out.2.2.1) HB1.out hbB
  have e3 := cell_keepB (HE.out.2.2.2.1) HB1.out hbB
  have e4 := cell_keepB (HE.out.2.2.2.2.1) HB1.out hbB
  have e5 := cell_keepB (HE.out.2.2.2.2.2.1) HB1.out hbB
  have e6 := cell_keepB (HE.out.2.2.2.2.2.2.1) HB1.out hbB
  have e7 := cell_keepB (HE.out.2.2.2.2.2.2.2) HB1.out hbB
  go_wp2_with fail
  refine (HIH.out x _ f1 B b _ _ (by omega) HSX.out (HX.out.belowB HB1.out HFX.out) HFX.out (HTAB.out.on (HB.out.trans HB1.out)) (by have := HB.out.size; have := HB1.out.size; omega) (by have := HB1.out.size; simp at this; omega) (by have := HC.out; have := HP.out; have := HL.out; simp <;> omega) HI1.out).mono ?_
  rintro e wz ⟨rfl, hi, hb, hk⟩
  have HI2 := hid hi
  have HB2 := hid (HB1.out.trans hb)
  have HK2 := hid (HK1.out.trans hk)
  clear hi hb hk x0 x1 x2 x3 e0 e1 e2 e3 e4 e5 e6 e7 HI1 HB1 HK1
  obtain ⟨x0, x1, x2, x3⟩ := okept_box4 HK2.out hbw
  have e0 := cell_keepB (HE.out.1) HB2.out hbB
  have e1 := cell_keepB (HE.out.2.1) HB2.out hbB
  have e2 := cell_keepB (HE.out.2.2.1) HB2.out hbB
  have e3 := cell_keepB (HE.out.2.2.2.1) HB2.out hbB
  have e4 := cell_keepB (HE.out.2.2.2.2.1) HB2.out hbB
  have e5 := cell_keepB (HE.out.2.2.2.2.2.1) HB2.out hbB
  have e6 := cell_keepB (HE.out.2.2.2.2.2.2.1) HB2.out hbB
  have e7 := cell_keepB (HE.out.2.2.2.2.2.2.2) HB2.out hbB
  go_wp2_with fail
  refine (tagi_any (d + 1) _ _ fp _ HTW.out (HA.out.belowB HB2.out HFP.out)).mono ?_
  rw [HTG.out]
  rintro e wt ⟨rfl, hbt⟩
  have hit := isb_newK HI2.out hbt
  have hkt : Lib.OthersKept 5 (some b) _ wt := HK2.out.trans (okept_newK hbt)
  have hbt' := HB2.out.trans (hbt.mono (by have := HB.out.size; have := HB2.out.size; omega))
  have HIT := hid hit
  have HBT := hid hbt'
  have HKT := hid hkt
  clear hit hbt hkt hbt' x0 x1 x2 x3 e0 e1 e2 e3 e4 e5 e6 e7
  obtain ⟨x0, x1, x2, x3⟩ := okept_box4 HKT.out hbw
  go_wp2_with fail
  refine (write1 B b _ 62 _ HIT.out (by have := HC.out; have := HP.out; have := HL.out; simp <;> omega) (by have := HB.out.size; have := HBT.out.size; omega)).mono ?_
  rintro e wz ⟨rfl, hi, hb, hk⟩
  have HI3 := hid hi
  have HB3 := hid (HBT.out.trans hb)
  have HK3 := hid (HKT.out.trans hk)
  clear hi hb hk x0 x1 x2 x3 HI2 HB2 HK2 HIT HBT HKT
  obtain ⟨x0, x1, x2, x3⟩ := okept_box4 HK3.out hbw
  have e0 := cell_keepB (HE.out.1) HB3.out hbB
  have e1 := cell_keepB (HE.out.2.1) HB3.out hbB
  have e2 := cell_keepB (HE.out.2.2.1) HB3.out hbB
  have e3 := cell_keepB (HE.out.2.2.2.1) HB3.out hbB
  have e4 := cell_keepB (HE.out.2.2.2.2.1) HB3.out hbB
  have e5 := cell_keepB (HE.out.2.2.2.2.2.1) HB3.out hbB
  have e6 := cell_keepB (HE.out.2.2.2.2.2.2.1) HB3.out hbB
  have e7 := cell_keepB (HE.out.2.2.2.2.2.2.2) HB3.out hbB
  go_wp2_with fail
  refine (HIH.out y _ f2 B b _ _ (by omega) HSY.out (HY.out.belowB HB3.out HFY.out) HFY.out (HTAB.out.on (HB.out.trans HB3.out)) (by have := HB.out.size; have := HB3.out.size; omega) (by have := HB3.out.size; simp at this; omega) (by have := HC.out; have := HP.out; have := HL.out; simp <;> omega) HI3.out).mono ?_
  rintro e wz ⟨rfl, hi, hb, hk⟩
  have HI4 := hid hi
  have HB4 := hid (HB3.out.trans hb)
  have HK4 := hid (HK3.out.trans hk)
  clear hi hb hk x0 x1 x2 x3 e0 e1 e2 e3 e4 e5 e6 e7 HI3 HB3 HK3
  obtain ⟨x0, x1, x2, x3⟩ := okept_box4 HK4.out hbw
  have e0 := cell_keepB (HE.out.1) HB4.out hbB
  have e1 := cell_keepB (HE.out.2.1) HB4.out hbB
  have e2 := cell_keepB (HE.out.2.2.1) HB4.out hbB
  have e3 := cell_keepB (HE.out.2.2.2.1) HB4.out hbB
  have e4 := cell_keepB (HE.out.2.2.2.2.1) HB4.out hbB
  have e5 := cell_keepB (HE.out.2.2.2.2.2.1) HB4.out hbB
  have e6 := cell_keepB (HE.out.2.2.2.2.2.2.1) HB4.out hbB
  have e7 := cell_keepB (HE.out.2.2.2.2.2.2.2) HB4.out hbB
  go_wp2_with fail
  refine (write1 B b _ 41 _ HI4.out (by have := HC.out; have := HP.out; have := HL.out; simp <;> omega) (by have := HB.out.size; have := HB4.out.size; omega)).mono ?_
  rintro e wz ⟨rfl, hi, hb, hk⟩
  have HI5 := hid hi
  have HB5 := hid (HB4.out.trans hb)
  have HK5 := hid (HK4.out.trans hk)
  clear hi hb hk x0 x1 x2 x3 e0 e1 e2 e3 e4 e5 e6 e7 HI4 HB4 HK4
  go_wp2_with fail
  have HIF := hid (show Lib.IsBuilderF 83 5 B b (Lib.byteCells (acc ++ cx (d + 1) (.mk 2 0 0 [x, y]))) _ from (show (((((acc ++ [40]) ++ cx d x) ++ [62]) ++ cx d y) ++ [41]) = acc ++ cx (d + 1) (.mk 2 0 0 [x, y]) by first | (rw [HT.out]; done) | (rw [HT.out]; simp)) ▸ HI5.out)
  exact bodyPost_ret (v := .tuple #[]) (by simp [results, Tryd.results62, go_sem]) rfl ⟨rfl, HIF.out, HB.out.trans HB5.out, HK.out.trans HK5.out⟩

set_option linter.unusedSimpArgs false in
set_option linter.unusedVariables false in
set_option maxRecDepth 100000 in
set_option maxHeartbeats 4000000 in
theorem wc_two3 (d : Nat) (ih : WcX d) (x y : Co) (v : Value) (fp : List Nat) (B b : Nat) (acc : List UInt8) (w : World) (hd : d + 1 ≤ 9) (hs : shpK (d + 1) (.mk 3 0 0 [x, y]) = true) (hat : Co.At w (.mk 3 0 0 [x, y]) v fp) (hfp : ∀ x ∈ fp, x < B) (htab : Lib.TabBelow Tryd.prog B w "internal/strconv.uint64pow10" .u64 Lib.pow10Tab) (hBw : B ≤ w.heap.size) (hbw : b < w.heap.size) (hacc : acc.length + 60 * 2 ^ (d + 1) ≤ 1099511627776)
    (hI : Lib.IsBuilderF 83 5 B b (Lib.byteCells acc) w) : Calls Tryd.prog 62 #[.pointer (some ⟨b, 0, none⟩), v] w (Wrote B b acc (cx (d + 1) (.mk 3 0 0 [x, y])) w) := by
  have HIH := hid ih
  clear ih
  obtain ⟨s, rfl, hsl⟩ := Co.at_mk.1 hat
  obtain ⟨hn, hts⟩ := shpK_node hs
  obtain ⟨bb, o, cap, k1, g1, l1, n1, a1, c1, k2, g2, l2, n2, a2, c2, f1, f2, rfl, hblt, d0, d1, d2, d3, d4, d5, d6, d7, hx1, hy1, hff, hcap⟩ := hsl.two
  have hbB : bb < B := hfp bb (by rw [hff]; simp)
  have HFX := hid (show ∀ z ∈ f1, z < B from fun z hz => hfp z (by rw [hff]; simp [hz]))
  have HFY := hid (show ∀ z ∈ f2, z < B from fun z hz => hfp z (by rw [hff]; simp [hz]))
  have hb0 : Below B w (w.alloc (Obj.cells #[.int .i64 3, .int .i64 0, .int .i64 0, .slice (some ⟨bb, o, none⟩) 2 cap] 45)) := (Below.refl _ _).alloc hBw _
  have HB := hid hb0
  have HI0 := hid (hI.alloc (Obj.cells #[.int .i64 3, .int .i64 0, .int .i64 0, .slice (some ⟨bb, o, none⟩) 2 cap] 45))
  have HK := hid ((Lib.OthersKept.refl 5 (some b) w).alloc (Obj.cells #[.int .i64 3, .int .i64 0, .int .i64 0, .slice (some ⟨bb, o, none⟩) 2 cap] 45))
  have HB0 := hid (Below.refl B (w.alloc (Obj.cells #[.int .i64 3, .int .i64 0, .int .i64 0, .slice (some ⟨bb, o, none⟩) 2 cap] 45)))
  have HK0 := hid (Lib.OthersKept.refl 5 (some b) (w.alloc (Obj.cells #[.int .i64 3, .int .i64 0, .int .i64 0, .slice (some ⟨bb, o, none⟩) 2 cap] 45)))
  have HC := hid hacc
  have HP : Hid (2 ^ (d + 1) = 2 * 2 ^ d ∧ 0 < 2 ^ d) := hid ⟨by rw [Nat.pow_succ]; omega, Nat.pow_pos (by omega)⟩
  have HTAB := hid htab
  have HX := hid (hx1.belowB hb0 HFX.out)
  have HY := hid (hy1.belowB hb0 HFY.out)
  have HA := hid (hat.belowB hb0 hfp)
  have HFP := hid hfp
  have HE := hid (And.intro (cell_keepB d0 hb0 hbB) (And.intro (cell_keepB d1 hb0 hbB) (And.intro (cell_keepB d2 hb0 hbB) (And.intro (cell_keepB d3 hb0 hbB) (And.intro (cell_keepB d4 hb0 hbB) (And.intro (cell_keepB d5 hb0 hbB) (And.intro (cell_keepB d6 hb0 hbB) (cell_keepB d7 hb0 hbB))))))))
  have HSX := hid (hts x (by simp))
  have HSY := hid (hts y (by simp))
  have HL := hid (And.intro (cx_len d x HSX.out) (cx_len d y HSY.out))
  have HTW := hid (tagWf_shp hs)
  have HTG := hid (show tagC (.mk 3 0 0 [x, y]) = 5 by simp [tagC])
  have HT := hid (show cx (d + 1) (.mk 3 0 0 [x, y]) = 40 :: (cx d x ++ (42 :: (cx d y ++ [41]))) by simp [cx, sgn])
  clear hs hat hsl hn hts hfp htab hacc hI hb0 hx1 hy1 hff d0 d1 d2 d3 d4 d5 d6 d7
  go_enter Tryd.func62, Tryd.ntmps62
  obtain ⟨x0, x1, x2, x3⟩ := okept_box4 HK0.out hbw
  have e0 := cell_keepB (HE.out.1) HB0.out hbB
  have e1 := cell_keepB (HE.out.2.1) HB0.out hbB
  have e2 := cell_keepB (HE.out.2.2.1) HB0.out hbB
  have e3 := cell_keepB (HE.out.2.2.2.1) HB0.out hbB
  have e4 := cell_keepB (HE.out.2.2.2.2.1) HB0.out hbB
  have e5 := cell_keepB (HE.out.2.2.2.2.2.1) HB0.out hbB
  have e6 := cell_keepB (HE.out.2.2.2.2.2.2.1) HB0.out hbB
  have e7 := cell_keepB (HE.out.2.2.2.2.2.2.2) HB0.out hbB
  go_wp2_with fail
  refine (write1 B b _ 40 _ HI0.out (by have := HC.out; have := HP.out; have := HL.out; simp <;> omega) (by have := HB.out.size; have := HB0.out.size; omega)).mono ?_
  rintro e wz ⟨rfl, hi, hb, hk⟩
  have HI1 := hid hi
  have HB1 := hid (HB0.out.trans hb)
  have HK1 := hid (HK0.out.trans hk)
  clear hi hb hk x0 x1 x2 x3 e0 e1 e2 e3 e4 e5 e6 e7 HI0 HB0 HK0
  obtain ⟨x0, x1, x2, x3⟩ := okept_box4 HK1.out hbw
  have e0 := cell_keepB (HE.out.1) HB1.out hbB
  have e1 := cell_keepB (HE.out.2.1) HB1.out hbB
  have e2 := cell_keepB (HE.out.2.2.1) HB1.out hbB
  have e3 := cell_keepB (HE.out.2.2.2.1) HB1.out hbB
  have e4 := cell_keepB (HE.out.2.2.2.2.1) HB1.out hbB
  have e5 := cell_keepB (HE.out.2.2.2.2.2.1) HB1.out hbB
  have e6 := cell_keepB (HE.out.2.2.2.2.2.2.1) HB1.out hbB
  have e7 := cell_keepB (HE.out.2.2.2.2.2.2.2) HB1.out hbB
  go_wp2_with fail
  refine (HIH.out x _ f1 B b _ _ (by omega) HSX.out (HX.out.belowB HB1.out HFX.out) HFX.out (HTAB.out.on (HB.out.trans HB1.out)) (by have := HB.out.size; have := HB1.out.size; omega) (by have := HB1.out.size; simp at this; omega) (by have := HC.out; have := HP.out; have := HL.out; simp <;> omega) HI1.out).mono ?_
  rintro e wz ⟨rfl, hi, hb, hk⟩
  have HI2 := hid hi
  have HB2 := hid (HB1.out.trans hb)
  have HK2 := hid (HK1.out.trans hk)
  clear hi hb hk x0 x1 x2 x3 e0 e1 e2 e3 e4 e5 e6 e7 HI1 HB1 HK1
  obtain ⟨x0, x1, x2, x3⟩ := okept_box4 HK2.out hbw
  have e0 := cell_keepB (HE.out.1) HB2.out hbB
  have e1 := cell_keepB (HE.out.2.1) HB2.out hbB
  have e2 := cell_keepB (HE.out.2.2.1) HB2.out hbB
  have e3 := cell_keepB (HE.out.2.2.2.1) HB2.out hbB
  have e4 := cell_keepB (HE.out.2.2.2.2.1) HB2.out hbB
  have e5 := cell_keepB (HE.out.2.2.2.2.2.1) HB2.out hbB
  have e6 := cell_keepB (HE.out.2.2.2.2.2.2.1) HB2.out hbB
  have e7 := cell_keepB (HE.out.2.2.2.2.2.2.2) HB2.out hbB
  go_wp2_with fail
  refine (tagi_any (d + 1) _ _ fp _ HTW.out (HA.out.belowB HB2.out HFP.out)).mono ?_
  rw [HTG.out]
  rintro e wt ⟨rfl, hbt⟩
  have hit := isb_newK HI2.out hbt
  have hkt : Lib.OthersKept 5 (some b) _ wt := HK2.out.trans (okept_newK hbt)
  have hbt' := HB2.out.trans (hbt.mono (by have := HB.out.size; have := HB2.out.size; omega))
  have HIT := hid hit
  have HBT := hid hbt'
  have HKT := hid hkt
  clear hit hbt hkt hbt' x0 x1 x2 x3 e0 e1 e2 e3 e4 e5 e6 e7
  obtain ⟨x0, x1, x2, x3⟩ := okept_box4 HKT.out hbw
  go_wp2_with fail
  refine (write1 B b _ 42 _ HIT.out (by have := HC.out; have := HP.out; have := HL.out; simp <;> omega) (by have := HB.out.size; have := HBT.out.size; omega)).mono ?_
  rintro e wz ⟨rfl, hi, hb, hk⟩
  have HI3 := hid hi
  have HB3 := hid (HBT.out.trans hb)
  have HK3 := hid (HKT.out.trans hk)
  clear hi hb hk x0 x1 x2 x3 HI2 HB2 HK2 HIT HBT HKT
  obtain ⟨x0, x1, x2, x3⟩ := okept_box4 HK3.out hbw
  have e0 := cell_keepB (HE.out.1) HB3.out hbB
  have e1 := cell_keepB (HE.out.2.1) HB3.out hbB
  have e2 := cell_keepB (HE.out.2.2.1) HB3.out hbB
  have e3 := cell_keepB (HE.out.2.2.2.1) HB3.out hbB
  have e4 := cell_keepB (HE.out.2.2.2.2.1) HB3.out hbB
  have e5 := cell_keepB (HE.out.2.2.2.2.2.1) HB3.out hbB
  have e6 := cell_keepB (HE.out.2.2.2.2.2.2.1) HB3.out hbB
  have e7 := cell_keepB (HE.out.2.2.2.2.2.2.2) HB3.out hbB
  go_wp2_with fail
  refine (HIH.out y _ f2 B b _ _ (by omega) HSY.out (HY.out.belowB HB3.out HFY.out) HFY.out (HTAB.out.on (HB.out.trans HB3.out)) (by have := HB.out.size; have := HB3.out.size; omega) (by have := HB3.out.size; simp at this; omega) (by have := HC.out; have := HP.out; have := HL.out; simp <;> omega) HI3.out).mono ?_
  rintro e wz ⟨rfl, hi, hb, hk⟩
  have HI4 := hid hi
  have HB4 := hid (HB3.out.trans hb)
  have HK4 := hid (HK3.out.trans hk)
  clear hi hb hk x0 x1 x2 x3 e0 e1 e2 e3 e4 e5 e6 e7 HI3 HB3 HK3
  obtain ⟨x0, x1, x2, x3⟩ := okept_box4 HK4.out hbw
  have e0 := cell_keepB (HE.out.1) HB4.out hbB
  have e1 := cell_keepB (HE.out.2.1) HB4.out hbB
  have e2 := cell_keepB (HE.out.2.2.1) HB4.out hbB
  have e3 := cell_keepB (HE.out.2.2.2.1) HB4.out hbB
  have e4 := cell_keepB (HE.out.2.2.2.2.1) HB4.out hbB
  have e5 := cell_keepB (HE.out.2.2.2.2.2.1) HB4.out hbB
  have e6 := cell_keepB (HE.out.2.2.2.2.2.2.1) HB4.out hbB
  have e7 := cell_keepB (HE.out.2.2.2.2.2.2.2) HB4.out hbB
  go_wp2_with fail
  refine (write1 B b _ 41 _ HI4.out (by have := HC.out; have := HP.out; have := HL.out; simp <;> omega) (by have := HB.out.size; have := HB4.out.size; omega)).mono ?_
  rintro e wz ⟨rfl, hi, hb, hk⟩
  have HI5 := hid hi
  have HB5 := hid (HB4.out.trans hb)
  have HK5 := hid (HK4.out.trans hk)
  clear hi hb hk x0 x1 x2 x3 e0 e1 e2 e3 e4 e5 e6 e7 HI4 HB4 HK4
  go_wp2_with fail
  have HIF := hid (show Lib.IsBuilderF 83 5 B b (Lib.byteCells (acc ++ cx (d + 1) (.mk 3 0 0 [x, y]))) _ from (show (((((acc ++ [40]) ++ cx d x) ++ [42]) ++ cx d y) ++ [41]) = acc ++ cx (d + 1) (.mk 3 0 0 [x, y]) by first | (rw [HT.out]; done) | (rw [HT.out]; simp)) ▸ HI5.out)
  exact bodyPost_ret (v := .tuple #[]) (by simp [results, Tryd.results62, go_sem]) rfl ⟨rfl, HIF.out, HB.out.trans HB5.out, HK.out.trans HK5.out⟩

end Go.Proofs.YtgekfnodmgkdaaaDoor
