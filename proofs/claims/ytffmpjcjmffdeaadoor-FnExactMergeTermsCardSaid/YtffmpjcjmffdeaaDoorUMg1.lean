/- The specification's MergeTerms. -/
import Derived.Test.YtffmpjcjmffdeaaDoorUG30
import Derived.Test.YtffmpjcjmffdeaaDoorUG1
import Derived.Test.YtffmpjcjmffdeaaDoorUG13
import Derived.Test.YtffmpjcjmffdeaaDoorUG15
namespace Go.Proofs.YtffmpjcjmffdeaaDoor
open Go.RowKit

theorem mgF1 {a b : Tm} (h : sameE a b = false) : mgT a b = zTm ∧ mgB a b = false := by simp [mgT, mgB, mgC, h]
theorem mgF2 {a b : Tm} (h : allC (tyLst a) (tyLst b) = false) : mgT a b = zTm ∧ mgB a b = false := by simp [mgT, mgB, mgC, h]
theorem mgF3 {a b : Tm} (h : sameE a b = true) (h' : allC (tyLst a) (tyLst b) = true) : mgT a b = wiM (mts (tyLst a) (tyLst b)) a ∧ mgB a b = wiOk (mts (tyLst a) (tyLst b)) a := by simp [mgT, mgB, mgC, h, h']

set_option linter.unusedVariables false in
set_option linter.unusedSimpArgs false in
set_option maxRecDepth 100000 in
set_option maxHeartbeats 8000000 in
theorem specMerge (a b : Tm) (va vb : Value) (fa fb : List Nat) (w : World) (hza : a.sz ≤ 1048576) (hzb : b.sz ≤ 1048576) (ha : a.At w va fa) (hb : b.At w vb fb) :
    Calls Tryd.prog 29 #[va, vb] w (MadeMB w (mgT a b) (mgB a b)) := by
  have hltA := ha.lt
  obtain ⟨p0, p1, p2, p3, p4, p5, p6, p7, p8, p9, p10, p11, p12, p13, p14, rfl⟩ := ha.agg
  obtain ⟨q0, q1, q2, q3, q4, q5, q6, q7, q8, q9, q10, q11, q12, q13, q14, rfl⟩ := hb.agg
  have hb0 : Below w.heap.size w (((w.alloc (Obj.cells #[.int .i64 p0, .string p1, .int .i64 p2, .int .i64 p3, .slice p5 p4 p6, .int .i64 p7, .slice p9 p8 p10, .int .i64 p11, .slice p13 p12 p14] 35)).alloc (Obj.cells #[.int .i64 q0, .string q1, .int .i64 q2, .int .i64 q3, .slice q5 q4 q6, .int .i64 q7, .slice q9 q8 q10, .int .i64 q11, .slice q13 q12 q14] 35)).alloc (Obj.cells #[.int .i64 0, .string ByteArray.empty, .int .i64 0, .int .i64 0, .slice none 0 0, .int .i64 0, .slice none 0 0, .int .i64 0, .slice none 0 0] 35)) := ((((Below.refl _ _).alloc (Nat.le_refl _) _).alloc (by simp) _).alloc (by simp; omega) _)
  have HB0 := hid hb0
  have hs0 : (((w.alloc (Obj.cells #[.int .i64 p0, .string p1, .int .i64 p2, .int .i64 p3, .slice p5 p4 p6, .int .i64 p7, .slice p9 p8 p10, .int .i64 p11, .slice p13 p12 p14] 35)).alloc (Obj.cells #[.int .i64 q0, .string q1, .int .i64 q2, .int .i64 q3, .slice q5 q4 q6, .int .i64 q7, .slice q9 q8 q10, .int .i64 q11, .slice q13 q12 q14] 35)).alloc (Obj.cells #[.int .i64 0, .string ByteArray.empty, .int .i64 0, .int .i64 0, .slice none 0 0, .int .i64 0, .slice none 0 0, .int .i64 0, .slice none 0 0] 35)).heap.size = w.heap.size + 1 + 1 + 1 := by simp
  have HS0 := hid hs0
  have HOUT := hid (fun (W : World) (h : Below (((w.alloc (Obj.cells #[.int .i64 p0, .string p1, .int .i64 p2, .int .i64 p3, .slice p5 p4 p6, .int .i64 p7, .slice p9 p8 p10, .int .i64 p11, .slice p13 p12 p14] 35)).alloc (Obj.cells #[.int .i64 q0, .string q1, .int .i64 q2, .int .i64 q3, .slice q5 q4 q6, .int .i64 q7, .slice q9 q8 q10, .int .i64 q11, .slice q13 q12 q14] 35)).alloc (Obj.cells #[.int .i64 0, .string ByteArray.empty, .int .i64 0, .int .i64 0, .slice none 0 0, .int .i64 0, .slice none 0 0, .int .i64 0, .slice none 0 0] 35)).heap.size (((w.alloc (Obj.cells #[.int .i64 p0, .string p1, .int .i64 p2, .int .i64 p3, .slice p5 p4 p6, .int .i64 p7, .slice p9 p8 p10, .int .i64 p11, .slice p13 p12 p14] 35)).alloc (Obj.cells #[.int .i64 q0, .string q1, .int .i64 q2, .int .i64 q3, .slice q5 q4 q6, .int .i64 q7, .slice q9 q8 q10, .int .i64 q11, .slice q13 q12 q14] 35)).alloc (Obj.cells #[.int .i64 0, .string ByteArray.empty, .int .i64 0, .int .i64 0, .slice none 0 0, .int .i64 0, .slice none 0 0, .int .i64 0, .slice none 0 0] 35)) W) => three_out h)
  have HA := hid (fun (W : World) (h : Below (((w.alloc (Obj.cells #[.int .i64 p0, .string p1, .int .i64 p2, .int .i64 p3, .slice p5 p4 p6, .int .i64 p7, .slice p9 p8 p10, .int .i64 p11, .slice p13 p12 p14] 35)).alloc (Obj.cells #[.int .i64 q0, .string q1, .int .i64 q2, .int .i64 q3, .slice q5 q4 q6, .int .i64 q7, .slice q9 q8 q10, .int .i64 q11, .slice q13 q12 q14] 35)).alloc (Obj.cells #[.int .i64 0, .string ByteArray.empty, .int .i64 0, .int .i64 0, .slice none 0 0, .int .i64 0, .slice none 0 0, .int .i64 0, .slice none 0 0] 35)).heap.size (((w.alloc (Obj.cells #[.int .i64 p0, .string p1, .int .i64 p2, .int .i64 p3, .slice p5 p4 p6, .int .i64 p7, .slice p9 p8 p10, .int .i64 p11, .slice p13 p12 p14] 35)).alloc (Obj.cells #[.int .i64 q0, .string q1, .int .i64 q2, .int .i64 q3, .slice q5 q4 q6, .int .i64 q7, .slice q9 q8 q10, .int .i64 q11, .slice q13 q12 q14] 35)).alloc (Obj.cells #[.int .i64 0, .string ByteArray.empty, .int .i64 0, .int .i64 0, .slice none 0 0, .int .i64 0, .slice none 0 0, .int .i64 0, .slice none 0 0] 35)) W) => ha.below (below_trans hb0 h))
  have HB := hid (fun (W : World) (h : Below (((w.alloc (Obj.cells #[.int .i64 p0, .string p1, .int .i64 p2, .int .i64 p3, .slice p5 p4 p6, .int .i64 p7, .slice p9 p8 p10, .int .i64 p11, .slice p13 p12 p14] 35)).alloc (Obj.cells #[.int .i64 q0, .string q1, .int .i64 q2, .int .i64 q3, .slice q5 q4 q6, .int .i64 q7, .slice q9 q8 q10, .int .i64 q11, .slice q13 q12 q14] 35)).alloc (Obj.cells #[.int .i64 0, .string ByteArray.empty, .int .i64 0, .int .i64 0, .slice none 0 0, .int .i64 0, .slice none 0 0, .int .i64 0, .slice none 0 0] 35)).heap.size (((w.alloc (Obj.cells #[.int .i64 p0, .string p1, .int .i64 p2, .int .i64 p3, .slice p5 p4 p6, .int .i64 p7, .slice p9 p8 p10, .int .i64 p11, .slice p13 p12 p14] 35)).alloc (Obj.cells #[.int .i64 q0, .string q1, .int .i64 q2, .int .i64 q3, .slice q5 q4 q6, .int .i64 q7, .slice q9 q8 q10, .int .i64 q11, .slice q13 q12 q14] 35)).alloc (Obj.cells #[.int .i64 0, .string ByteArray.empty, .int .i64 0, .int .i64 0, .slice none 0 0, .int .i64 0, .slice none 0 0, .int .i64 0, .slice none 0 0] 35)) W) => hb.below (below_trans hb0 h))
  have HEA := hid (specEraseTerm a _ _ (((w.alloc (Obj.cells #[.int .i64 p0, .string p1, .int .i64 p2, .int .i64 p3, .slice p5 p4 p6, .int .i64 p7, .slice p9 p8 p10, .int .i64 p11, .slice p13 p12 p14] 35)).alloc (Obj.cells #[.int .i64 q0, .string q1, .int .i64 q2, .int .i64 q3, .slice q5 q4 q6, .int .i64 q7, .slice q9 q8 q10, .int .i64 q11, .slice q13 q12 q14] 35)).alloc (Obj.cells #[.int .i64 0, .string ByteArray.empty, .int .i64 0, .int .i64 0, .slice none 0 0, .int .i64 0, .slice none 0 0, .int .i64 0, .slice none 0 0] 35)) hza (ha.below hb0))
  have HEB := hid (fun (W : World) (h : Below (((w.alloc (Obj.cells #[.int .i64 p0, .string p1, .int .i64 p2, .int .i64 p3, .slice p5 p4 p6, .int .i64 p7, .slice p9 p8 p10, .int .i64 p11, .slice p13 p12 p14] 35)).alloc (Obj.cells #[.int .i64 q0, .string q1, .int .i64 q2, .int .i64 q3, .slice q5 q4 q6, .int .i64 q7, .slice q9 q8 q10, .int .i64 q11, .slice q13 q12 q14] 35)).alloc (Obj.cells #[.int .i64 0, .string ByteArray.empty, .int .i64 0, .int .i64 0, .slice none 0 0, .int .i64 0, .slice none 0 0, .int .i64 0, .slice none 0 0] 35)).heap.size (((w.alloc (Obj.cells #[.int .i64 p0, .string p1, .int .i64 p2, .int .i64 p3, .slice p5 p4 p6, .int .i64 p7, .slice p9 p8 p10, .int .i64 p11, .slice p13 p12 p14] 35)).alloc (Obj.cells #[.int .i64 q0, .string q1, .int .i64 q2, .int .i64 q3, .slice q5 q4 q6, .int .i64 q7, .slice q9 q8 q10, .int .i64 q11, .slice q13 q12 q14] 35)).alloc (Obj.cells #[.int .i64 0, .string ByteArray.empty, .int .i64 0, .int .i64 0, .slice none 0 0, .int .i64 0, .slice none 0 0, .int .i64 0, .slice none 0 0] 35)) W) => specEraseTerm b _ _ W hzb (hb.below (below_trans hb0 h)))
  have HTA := hid (fun (W : World) (h : Below (((w.alloc (Obj.cells #[.int .i64 p0, .string p1, .int .i64 p2, .int .i64 p3, .slice p5 p4 p6, .int .i64 p7, .slice p9 p8 p10, .int .i64 p11, .slice p13 p12 p14] 35)).alloc (Obj.cells #[.int .i64 q0, .string q1, .int .i64 q2, .int .i64 q3, .slice q5 q4 q6, .int .i64 q7, .slice q9 q8 q10, .int .i64 q11, .slice q13 q12 q14] 35)).alloc (Obj.cells #[.int .i64 0, .string ByteArray.empty, .int .i64 0, .int .i64 0, .slice none 0 0, .int .i64 0, .slice none 0 0, .int .i64 0, .slice none 0 0] 35)).heap.size (((w.alloc (Obj.cells #[.int .i64 p0, .string p1, .int .i64 p2, .int .i64 p3, .slice p5 p4 p6, .int .i64 p7, .slice p9 p8 p10, .int .i64 p11, .slice p13 p12 p14] 35)).alloc (Obj.cells #[.int .i64 q0, .string q1, .int .i64 q2, .int .i64 q3, .slice q5 q4 q6, .int .i64 q7, .slice q9 q8 q10, .int .i64 q11, .slice q13 q12 q14] 35)).alloc (Obj.cells #[.int .i64 0, .string ByteArray.empty, .int .i64 0, .int .i64 0, .slice none 0 0, .int .i64 0, .slice none 0 0, .int .i64 0, .slice none 0 0] 35)) W) => specTermTypes a _ _ W hza (ha.below (below_trans hb0 h)))
  have HTB := hid (fun (W : World) (h : Below (((w.alloc (Obj.cells #[.int .i64 p0, .string p1, .int .i64 p2, .int .i64 p3, .slice p5 p4 p6, .int .i64 p7, .slice p9 p8 p10, .int .i64 p11, .slice p13 p12 p14] 35)).alloc (Obj.cells #[.int .i64 q0, .string q1, .int .i64 q2, .int .i64 q3, .slice q5 q4 q6, .int .i64 q7, .slice q9 q8 q10, .int .i64 q11, .slice q13 q12 q14] 35)).alloc (Obj.cells #[.int .i64 0, .string ByteArray.empty, .int .i64 0, .int .i64 0, .slice none 0 0, .int .i64 0, .slice none 0 0, .int .i64 0, .slice none 0 0] 35)).heap.size (((w.alloc (Obj.cells #[.int .i64 p0, .string p1, .int .i64 p2, .int .i64 p3, .slice p5 p4 p6, .int .i64 p7, .slice p9 p8 p10, .int .i64 p11, .slice p13 p12 p14] 35)).alloc (Obj.cells #[.int .i64 q0, .string q1, .int .i64 q2, .int .i64 q3, .slice q5 q4 q6, .int .i64 q7, .slice q9 q8 q10, .int .i64 q11, .slice q13 q12 q14] 35)).alloc (Obj.cells #[.int .i64 0, .string ByteArray.empty, .int .i64 0, .int .i64 0, .slice none 0 0, .int .i64 0, .slice none 0 0, .int .i64 0, .slice none 0 0] 35)) W) => specTermTypes b _ _ W hzb (hb.below (below_trans hb0 h)))
  have HF1 := hid (mgF1 (a := a) (b := b))
  have HF2 := hid (mgF2 (a := a) (b := b))
  have HF3 := hid (mgF3 (a := a) (b := b))
  have HSE := hid (show sameE a b = (vldM a && vldM b && tmEq (erT a) (erT b)) from rfl)
  have HLEN := hid (sameE_len (a := a) (b := b))
  have HVA := hid (fun u (h : u ∈ tyLst a) => tyLst_vldMg h)
  have HVB := hid (fun u (h : u ∈ tyLst b) => tyLst_vldMg h)
  have HWT := hid (fun (L : List Ty) (hL : ∀ u ∈ L, u.cnt ≤ 1048576) (s : Value) (lfp : List Nat) (W : World) (h : a.At W (.agg #[.int .i64 p0, .string p1, .int .i64 p2, .int .i64 p3, .slice p5 p4 p6, .int .i64 p7, .slice p9 p8 p10, .int .i64 p11, .slice p13 p12 p14]) fa) (h2 : SlAt W L s lfp) => specWithTypes L hL a _ fa s lfp W hza h h2)
  have HMC := hid (fun (h : allC (tyLst a) (tyLst b) = true) u (hu : u ∈ mts (tyLst a) (tyLst b)) => shp_cnt8 (mts_cnt h u hu) (Nat.le_refl 4))
  generalize mgT a b = E at *
  generalize mgB a b = ok at *
  generalize sameE a b = se at *
  generalize tyLst a = A at *
  generalize tyLst b = B at *
  generalize erT a = xa at *
  generalize erT b = xb at *
  generalize vldM a = r1 at *
  generalize vldM b = r2 at *
  obtain ⟨h0, h1, -⟩ := HOUT.out _ (Below.refl _ _)
  obtain ⟨x0, x1, x2, x3, x4, x5, x6, x7, x8⟩ := cells9 h0
  clear ha hb hb0 h0 h1
  go_enter Tryd.func29, Tryd.ntmps29
  go_wp2_with fail
  refine HEA.out.mono ?_
  rintro e w1 ⟨vx, fx, rfl, hx, hfx, hb1⟩
  obtain ⟨c0, c1, c2, c3, c4, c5, c6, c7, c8, c9, c10, c11, c12, c13, c14, rfl⟩ := hx.agg
  have hal1 : Below w1.heap.size w1 (w1.alloc (Obj.cells #[.int .i64 c0, .string c1, .int .i64 c2, .int .i64 c3, .slice c5 c4 c6, .int .i64 c7, .slice c9 c8 c10, .int .i64 c11, .slice c13 c12 c14] 35)) := (Below.refl _ _).alloc (Nat.le_refl _) _
  have hb1' := below_trans hb1 hal1
  have HB1 := hid hb1'
  have HX := hid (And.intro (hx.below hal1) (alloc_new w1 (Obj.cells #[.int .i64 c0, .string c1, .int .i64 c2, .int .i64 c3, .slice c5 c4 c6, .int .i64 c7, .slice c9 c8 c10, .int .i64 c11, .slice c13 c12 c14] 35)))
  obtain ⟨-, h1, -⟩ := HOUT.out _ hb1'
  obtain ⟨u0, u1, u2, u3, u4, u5, u6, u7, u8⟩ := cells9 h1
  clear x0 x1 x2 x3 x4 x5 x6 x7 x8 hx hfx hb1 h1 hb1' hal1
  go_wp2_with fail
  refine (HEB.out _ HB1.out).mono ?_
  rintro e w2 ⟨vy, fy, rfl, hy, hfy, hb2⟩
  obtain ⟨d0, d1, d2, d3, d4, d5, d6, d7, d8, d9, d10, d11, d12, d13, d14, rfl⟩ := hy.agg
  have hal2 : Below w2.heap.size w2 (w2.alloc (Obj.cells #[.int .i64 d0, .string d1, .int .i64 d2, .int .i64 d3, .slice d5 d4 d6, .int .i64 d7, .slice d9 d8 d10, .int .i64 d11, .slice d13 d12 d14] 35)) := (Below.refl _ _).alloc (Nat.le_refl _) _
  have hb2' := below_trans (below_trans HB1.out hb2) hal2
  have HB2 := hid hb2'
  have hXb := blk (blk HX.out.2 hb2) hal2
  obtain ⟨x0, x1, x2, x3, x4, x5, x6, x7, x8⟩ := cells9 hXb
  have HTS := hid (specTermSame xa xb _ _ _ _ (w2.alloc (Obj.cells #[.int .i64 d0, .string d1, .int .i64 d2, .int .i64 d3, .slice d5 d4 d6, .int .i64 d7, .slice d9 d8 d10, .int .i64 d11, .slice d13 d12 d14] 35)) ((HX.out.1.below hb2).below hal2) (hy.below hal2))
  clear u0 u1 u2 u3 u4 u5 u6 u7 u8 hy hfy hb2 hal2 hXb hb2'
  cases r1 with
  | false =>
    have hZ := (HOUT.out _ HB2.out).2.2
    obtain ⟨y0, y1, y2, y3, y4, y5, y6, y7, y8⟩ := cells9 hZ
    have yz := fun o => frozen_of_block (o := o) hZ
    have hM := lt_of_block hZ
    have FIN := hid (zero_out (B := w.heap.size + 1 + 1) (below_trans HB0.out HB2.out) (by omega))
    have HE := hid (HF1.out HSE.out)
    clear hZ x0 x1 x2 x3 x4 x5 x6 x7 x8
    go_wp2_with fail
    rw [HE.out.1, HE.out.2]
    exact bodyPost_ret (v := .tuple #[.agg (Array.mk [.int .i64 0, .string ByteArray.empty, .int .i64 0, .int .i64 0, .slice none 0 0, .int .i64 0, .slice none 0 0, .int .i64 0, .slice none 0 0]), .bool false]) (by simp [results, Tryd.results29, go_sem, y0, y1, y2, y3, y4, y5, y6, y7, y8]; rfl) rfl FIN.out
  | true =>
  cases r2 with
  | false =>
    have hZ := (HOUT.out _ HB2.out).2.2
    obtain ⟨y0, y1, y2, y3, y4, y5, y6, y7, y8⟩ := cells9 hZ
    have yz := fun o => frozen_of_block (o := o) hZ
    have hM := lt_of_block hZ
    have FIN := hid (zero_out (B := w.heap.size + 1 + 1) (below_trans HB0.out HB2.out) (by omega))
    have HE := hid (HF1.out HSE.out)
    clear hZ x0 x1 x2 x3 x4 x5 x6 x7 x8
    go_wp2_with fail
    rw [HE.out.1, HE.out.2]
    exact bodyPost_ret (v := .tuple #[.agg (Array.mk [.int .i64 0, .string ByteArray.empty, .int .i64 0, .int .i64 0, .slice none 0 0, .int .i64 0, .slice none 0 0, .int .i64 0, .slice none 0 0]), .bool false]) (by simp [results, Tryd.results29, go_sem, y0, y1, y2, y3, y4, y5, y6, y7, y8]; rfl) rfl FIN.out
  | true =>
  simp only [Bool.true_and] at HSE
  generalize tmEq xa xb = cc at *
  go_wp2_with fail
  refine HTS.out.mono ?_
  rintro e w3 ⟨rfl, hb3⟩
  have HB3 := hid (below_trans HB2.out hb3)
  clear hb3 x0 x1 x2 x3 x4 x5 x6 x7 x8 HX HTS HB1 HB2 HEA HEB
  cases cc with
  | false =>
    have hZ := (HOUT.out _ HB3.out).2.2
    obtain ⟨y0, y1, y2, y3, y4, y5, y6, y7, y8⟩ := cells9 hZ
    have yz := fun o => frozen_of_block (o := o) hZ
    have hM := lt_of_block hZ
    have FIN := hid (zero_out (B := w.heap.size + 1 + 1) (below_trans HB0.out HB3.out) (by omega))
    have HE := hid (HF1.out HSE.out)
    clear hZ
    go_wp2_with fail
    rw [HE.out.1, HE.out.2]
    exact bodyPost_ret (v := .tuple #[.agg (Array.mk [.int .i64 0, .string ByteArray.empty, .int .i64 0, .int .i64 0, .slice none 0 0, .int .i64 0, .slice none 0 0, .int .i64 0, .slice none 0 0]), .bool false]) (by simp [results, Tryd.results29, go_sem, y0, y1, y2, y3, y4, y5, y6, y7, y8]; rfl) rfl FIN.out
  | true =>
  have HLN := hid (HLEN.out HSE.out)
  obtain ⟨h0, -, -⟩ := HOUT.out _ HB3.out
  obtain ⟨x0, x1, x2, x3, x4, x5, x6, x7, x8⟩ := cells9 h0
  clear h0
  go_wp2_with fail
  refine (HTA.out _ HB3.out).mono ?_
  rintro e w4 ⟨s1, f1, rfl, hs1, hf1, hb4⟩
  have HB4 := hid (below_trans HB3.out hb4)
  obtain ⟨-, h1, -⟩ := HOUT.out _ HB4.out
  obtain ⟨u0, u1, u2, u3, u4, u5, u6, u7, u8⟩ := cells9 h1
  clear h1 x0 x1 x2 x3 x4 x5 x6 x7 x8
  go_wp2_with fail
  refine (HTB.out _ HB4.out).mono ?_
  rintro e w5 ⟨s2, f2, rfl, hs2, hf2, hb5⟩
  have HB5 := hid (below_trans HB4.out hb5)
  have hs15 := hs1.below hb5
  have hlt4 := hs1.lt
  clear u0 u1 u2 u3 u4 u5 u6 u7 u8
  rcases hs15 with ⟨rfl, rfl, a1, cap1, rfl⟩ | ⟨b1, o1, cap1, g1, rfl, hp1, hcap1, hm1, hl1, rfl⟩
  · have HE := hid (HF3.out HSE.out (by simp [allC]))
    clear hs1 hf1 hb4 hs2 hf2 hb5 hlt4
    go_wp2_with fail
    go_loopw [12] (fun i wr => i = .int .i64 0 ∧ wr = w5) (fun _ _ => 0)
    case atStart => exact ⟨rfl, rfl⟩
    case round =>
      obtain ⟨rfl, rfl⟩ := hrel
      have hA9 := (HOUT.out _ HB5.out).1
      have HZ9 := hid (HOUT.out _ HB5.out).2.2
      obtain ⟨x0, x1, x2, x3, x4, x5, x6, x7, x8⟩ := cells9 hA9
      have HW9 := hid (HWT.out _ (fun u hu => by simp [mts] at hu) _ _ _ (HA.out _ HB5.out) (show SlAt wr (mts [] B) (.slice a1 0 cap1) [] from .inl ⟨rfl, rfl, _, _, rfl⟩))
      have HB9 := hid (below_trans HB0.out HB5.out)
      clear hA9
      go_wp2_with fail
      refine HW9.out.mono ?_
      rintro e w9 ⟨v', f', rfl, hu, hf, hb9⟩
      obtain ⟨r0, r1, r2, r3, r4, r5, r6, r7, r8, r9, r10, r11, r12, r13, r14, rfl⟩ := hu.agg
      have hZ4 := blk HZ9.out hb9
      obtain ⟨y0, y1, y2, y3, y4, y5, y6, y7, y8⟩ := cells9 hZ4
      have yz := fun o => frozen_of_block (o := o) hZ4
      have hM := lt_of_block hZ4
      have hsr := lt_of_block HZ9.out
      have b9 := below_trans HB9.out hb9
      have ab : Above wr.heap.size w9 (put w9 (w.heap.size + 1 + 1) 0 [.int .i64 r0, .string r1, .int .i64 r2, .int .i64 r3, .slice r5 r4 r6, .int .i64 r7, .slice r9 r8 r10, .int .i64 r11, .slice r13 r12 r14]) := (Above.refl _ _).put (by omega)
      have FIN := hid (show MadeMB w (wiM (mts [] B) a) (wiOk (mts [] B) a) (.returned (.tuple #[.agg (Array.mk [.int .i64 r0, .string r1, .int .i64 r2, .int .i64 r3, .slice r5 r4 r6, .int .i64 r7, .slice r9 r8 r10, .int .i64 r11, .slice r13 r12 r14]), .bool (wiOk (mts [] B) a)])) (put w9 (w.heap.size + 1 + 1) 0 [.int .i64 r0, .string r1, .int .i64 r2, .int .i64 r3, .slice r5 r4 r6, .int .i64 r7, .slice r9 r8 r10, .int .i64 r11, .slice r13 r12 r14]) from
        ⟨_, f', rfl, hu.above ab hf.ge, (hf.above ab (Nat.le_refl _)).mono (by omega), below_put b9 (by omega)⟩)
      generalize wiOk (mts [] B) a = okk at *
      generalize wiM (mts [] B) a = EE at *
      clear x0 x1 x2 x3 x4 x5 x6 x7 x8 hu hf hb9 hZ4 b9 ab HW9
      go_wp2_with fail
      rw [HE.out.1, HE.out.2]
      exact bodyPost_ret (v := .tuple #[.agg (Array.mk [.int .i64 r0, .string r1, .int .i64 r2, .int .i64 r3, .slice r5 r4 r6, .int .i64 r7, .slice r9 r8 r10, .int .i64 r11, .slice r13 r12 r14]), .bool okk]) (by simp [results, Tryd.results29, go_sem, y0, y1, y2, y3, y4, y5, y6, y7, y8]) rfl FIN.out
  · obtain ⟨a2, cap2, rfl, hcap2, hm2, hget2⟩ := hs2.openA
    have hb1lt4 : b1 < w4.heap.size := hlt4 b1 (by simp)
    have hb1ge : w3.heap.size ≤ b1 := (hf1.2 b1 (by simp)).1
    have hw3 : w.heap.size + 1 + 1 + 1 ≤ w3.heap.size := by have := HB3.out.size; rw [HS0.out] at this; exact this
    have hnin : b1 ∉ g1 := (List.nodup_cons.1 hf1.1).1
    have HFZ5 := hid (show ∀ o, w5.frozen? ⟨b1, o, none⟩ = false from fun o => (hb5.frozen (p := ⟨b1, o, none⟩) hb1lt4).trans ((hf1.2 b1 (by simp)).2.2 o))
    have hlt5 : b1 < w5.heap.size := Nat.lt_of_lt_of_le hb1lt4 hb5.size
    have HFR := hid (fun (W : World) (h : Only [b1] w5 W) => (show W.heap[w.heap.size]? = some (Obj.cells #[.int .i64 p0, .string p1, .int .i64 p2, .int .i64 p3, .slice p5 p4 p6, .int .i64 p7, .slice p9 p8 p10, .int .i64 p11, .slice p13 p12 p14] 35) ∧ W.heap[w.heap.size + 1]? = some (Obj.cells #[.int .i64 q0, .string q1, .int .i64 q2, .int .i64 q3, .slice q5 q4 q6, .int .i64 q7, .slice q9 q8 q10, .int .i64 q11, .slice q13 q12 q14] 35) ∧ W.heap[w.heap.size + 1 + 1]? = some (Obj.cells #[.int .i64 0, .string ByteArray.empty, .int .i64 0, .int .i64 0, .slice none 0 0, .int .i64 0, .slice none 0 0, .int .i64 0, .slice none 0 0] 35) ∧ a.At W (.agg #[.int .i64 p0, .string p1, .int .i64 p2, .int .i64 p3, .slice p5 p4 p6, .int .i64 p7, .slice p9 p8 p10, .int .i64 p11, .slice p13 p12 p14]) fa ∧ Below w.heap.size w W from by
      obtain ⟨h0, h1, h2⟩ := HOUT.out _ HB5.out
      have hw5 := HB5.out.size
      rw [HS0.out] at hw5
      exact ⟨(h.block _ (by omega) (by simp; omega)).trans h0, (h.block _ (by omega) (by simp; omega)).trans h1, (h.block _ (by omega) (by simp; omega)).trans h2, (HA.out _ HB5.out).onlyMg h (fun x hx => by have := hltA x hx; simp; omega), onlyBelow (below_trans HB0.out HB5.out) h (by omega) (by simp; omega)⟩))
    have HS2 := hid (fun (W : World) (h : Only [b1] w5 W) => (hs2.onlyMg h (fun x hx => by have := (hf2.2 x hx).1; simp; omega)))
    have HL5 := hid hl1
    have HLT5 := hid hlt5
    have hAm : A.length ≤ 9223372036854775807 := hm1
    have hBm : B.length ≤ 9223372036854775807 := hm2
    clear hs1 hf1 hb4 hs2 hf2 hb5 hlt4 hl1 hget2 hb1lt4 hw3
    go_wp2_with fail
    go_loopw [12] (fun i wr => ∃ (j : Nat) (f : List Nat), j ≤ A.length ∧ i = .int .i64 j ∧ (∀ i, i < j → consOf (nthT A i) (nthT B i) = true) ∧ Ty.AtL wr (curT A B j) b1 o1 f ∧ b1 ∉ f ∧ Only [b1] w5 wr) (fun i _ => A.length - (intOf i).toNat)
    case atStart => exact ⟨0, g1, Nat.zero_le _, rfl, fun i h => by omega, by rw [curT_zero]; exact HL5.out, hnin, Only.refl _ _⟩
    case round =>
      obtain ⟨j, f, hj, rfl, hcc, hl, hbf, hon⟩ := hrel
      have HCC := hid hcc
      have HL := hid hl
      have HBF := hid hbf
      have HON := hid hon
      by_cases hlk : j < A.length
      · have hcl := curT_len A B (Nat.le_of_lt hlk)
        have hjB : j < B.length := by have := HLN.out; omega
        obtain ⟨kx, nx, ax, cx, gx, c0, c1, hatx⟩ := row_get hl j (by omega)
        rw [curT_get A B hlk] at hatx
        obtain ⟨a2', cap2', e2, -, -, hget⟩ := (HS2.out wr hon).openA
        simp only [Value.slice.injEq, true_and] at e2
        obtain ⟨rfl, rfl⟩ := e2
        obtain ⟨b2, o2, ky, ny, ay, cy, gy, rfl, hlt2, d0, d1, haty, -⟩ := hget j hjB
        have hvA := HVA.out A[j] (List.getElem_mem hlk)
        have hvB := HVB.out (B[j]'hjB) (List.getElem_mem hjB)
        have hnA : nthT A j = A[j] := nthT_eq hlk
        have hnB : nthT B j = B[j]'hjB := nthT_eq hjB
        have HS := hid (fun (W : World) (h : Below wr.heap.size wr W) => (show W.cell? ⟨b1, o1 + j * 2, none⟩ = some (.int .i64 kx) ∧ W.cell? ⟨b1, o1 + j * 2 + 1, none⟩ = some (.slice ax nx cx) ∧ W.cell? ⟨b2, o2 + j * 2, none⟩ = some (.int .i64 ky) ∧ W.cell? ⟨b2, o2 + j * 2 + 1, none⟩ = some (.slice ay ny cy) from ⟨cell_keep c0 h, cell_keep c1 h, cell_keep d0 h, cell_keep d1 h⟩))
        have hlbr : b1 < wr.heap.size := World.block_lt_of_cell? _ _ c0
        have HFZ := hid (fun (W : World) (h : Below wr.heap.size wr W) => (show ∀ o, W.frozen? ⟨b1, o, none⟩ = false from fun o => (h.frozen (p := ⟨b1, o, none⟩) hlbr).trans ((hon.frozen b1 o HLT5.out).trans (HFZ5.out o))))
        have HLB := hid hlbr
        have HJ1 := hid (show j < (curT A B j).length by omega)
        have HCU := hid (curT_set A B hlk)
        have HCS := hid (fun (W : World) (h : Below wr.heap.size wr W) => l1Consistent_any A[j] (B[j]'hjB) _ _ _ _ W (hatx.below h) (haty.below h) (wf_of_vld hvA) (wf_of_vld hvB))
        have HMT := hid (show cons A[j] (B[j]'hjB) = true → ∀ (W : World) (h : Below wr.heap.size wr W), Calls Tryd.prog 74 #[.agg #[.int .i64 kx, .slice ax nx cx], .agg #[.int .i64 ky, .slice ay ny cy]] W (MadeT W (meet A[j] (B[j]'hjB))) from fun hc W h => l1Meet_any A[j] (B[j]'hjB) _ _ _ _ W (hatx.below h) (haty.below h) (wf_of_vld hvA) (wf_of_vld hvB) hc (shp_cnt8 hvA (Nat.le_refl 4)) (shp_cnt8 hvB (Nat.le_refl 4)))
        have HC0 := hid (show consOf (nthT A j) (nthT B j) = cons A[j] (B[j]'hjB) by rw [hnA, hnB, consOf_eq hvA hvB])
        have HMM := hid (show cons A[j] (B[j]'hjB) = true → meetOf (nthT A j) (nthT B j) = meet A[j] (B[j]'hjB) from fun h => by rw [hnA, hnB]; unfold meetOf; rw [consOf_eq hvA hvB, if_pos h])
        have HJ := hid hlk
        have hj0 : (0 : Int) ≤ (j : Int) := by omega
        have hj1 : (j : Int) < (A.length : Int) := by omega
        have hj2 : (j : Int) < (B.length : Int) := by omega
        generalize meet A[j] (B[j]'hjB) = MM at *
        generalize cons A[j] (B[j]'hjB) = cc at *
        clear hcc hl hbf hon c0 c1 d0 d1 hatx haty hget hvA hvB hnA hnB hcl
        cases cc with
        | false =>
          have HC1 := hid HC0.out
          go_wp2_with fail
          refine regionL (s := 8) (S0 := (fun _ => True)) (S1 := (fun w' => w'.cell? ⟨b1, o1 + j * 2, none⟩ = some (.int .i64 kx) ∧ w'.cell? ⟨b1, o1 + j * 2 + 1, none⟩ = some (.slice ax nx cx) ∧ w'.cell? ⟨b2, o2 + j * 2, none⟩ = some (.int .i64 ky) ∧ w'.cell? ⟨b2, o2 + j * 2 + 1, none⟩ = some (.slice ay ny cy))) (by kernel_rfl) (trivial) (HS.out _ (below_drew wr)) (fun hS0 => ?_)
          refine takeL (i := 0) (v := ?vf1) rfl (by kernel_rfl) (by kernel_rfl) (by kernel_rfl) (by decide) (fun _ _ _ h => h) (Or.inl ⟨by rfl, ?hyf1⟩) (by assumption) ?_
          case hyf1 => (intro w hSw; (try dsimp only at hSw); go_simp; (try with_reducible rfl))
          try simp only [Act.put, List.setIfInBounds_toArray, List.set_cons_zero, List.set_cons_succ]
          refine takeL (i := 1) (v := ?vf2) rfl (by kernel_rfl) (by kernel_rfl) (by kernel_rfl) (by decide) (fun _ _ _ h => h) (Or.inl ⟨by rfl, ?hyf2⟩) (by assumption) ?_
          case hyf2 => (intro w hSw; (try dsimp only at hSw); go_simp; (try with_reducible rfl))
          try simp only [Act.put, List.setIfInBounds_toArray, List.set_cons_zero, List.set_cons_succ]
          refine takeL (i := 2) (v := ?vf3) rfl (by kernel_rfl) (by kernel_rfl) (by kernel_rfl) (by decide) (fun _ _ _ h => h) (Or.inl ⟨by rfl, ?hyf3⟩) (by assumption) ?_
          case hyf3 => (intro w hSw; (try dsimp only at hSw); go_simp; (try with_reducible rfl))
          try simp only [Act.put, List.setIfInBounds_toArray, List.set_cons_zero, List.set_cons_succ]
          refine takeL0 (i := 3) (v := ?vf4) rfl rfl (by kernel_rfl) (by kernel_rfl) (by kernel_rfl) (by decide) (by kernel_rfl) (by kernel_rfl) (fun _ _ _ h => h) (Or.inl ⟨by rfl, ?hyf4⟩) (by assumption) ?_
          case hyf4 => (intro w hSw; (try dsimp only at hSw); go_simp; (try with_reducible rfl))
          try simp only [Act.put, List.setIfInBounds_toArray, List.set_cons_zero, List.set_cons_succ]
          refine takeL (i := 4) (v := ?vf5) rfl (by kernel_rfl) (by kernel_rfl) (by kernel_rfl) (by decide) (fun _ _ _ h => h) (Or.inl ⟨by rfl, ?hyf5⟩) (by assumption) ?_
          case hyf5 => (intro w hSw; (try dsimp only at hSw); go_simp; (try with_reducible rfl))
          try simp only [Act.put, List.setIfInBounds_toArray, List.set_cons_zero, List.set_cons_succ]
          refine takeL (i := 5) (v := ?vf6) rfl (by kernel_rfl) (by kernel_rfl) (by kernel_rfl) (by decide) (fun _ _ _ h => h) (Or.inl ⟨by rfl, ?hyf6⟩) (by assumption) ?_
          case hyf6 => (intro w hSw; (try dsimp only at hSw); go_simp; (try with_reducible rfl))
          try simp only [Act.put, List.setIfInBounds_toArray, List.set_cons_zero, List.set_cons_succ]
          refine takeL (i := 6) (v := ?vf7) rfl (by kernel_rfl) (by kernel_rfl) (by kernel_rfl) (by decide) (fun _ _ _ h => h) (Or.inl ⟨by rfl, ?hyf7⟩) (by assumption) ?_
          case hyf7 => (intro w hSw; (try dsimp only at hSw); go_simp; (try with_reducible rfl))
          try simp only [Act.put, List.setIfInBounds_toArray, List.set_cons_zero, List.set_cons_succ]
          refine takeL0 (i := 7) (v := ?vf8) rfl rfl (by kernel_rfl) (by kernel_rfl) (by kernel_rfl) (by decide) (by kernel_rfl) (by kernel_rfl) (fun _ _ _ h => h) (Or.inl ⟨by rfl, ?hyf8⟩) (by assumption) ?_
          case hyf8 => (intro w hSw; (try dsimp only at hSw); go_simp; (try with_reducible rfl))
          try simp only [Act.put, List.setIfInBounds_toArray, List.set_cons_zero, List.set_cons_succ]
          refine readyL (rs := [8]) (by kernel_rfl) (by simp) ?_
          refine AllReadyL.cons rfl (fun K hK => ?_) AllReadyL.nil
          go_simp
          refine (HCS.out _ (below_drew wr)).mono ?_
          rintro e v8 ⟨rfl, hy8⟩
          have hk8 : Below wr.heap.size wr v8 := below_trans (below_drew wr) hy8
          refine hK.out _ _ ?_ (fun hS1 => ?_)
          · exact ⟨HS.out _ hk8, fun h => absurd (h.symm.trans (show _ = true by kernel_rfl)) (by decide)⟩
          clear hK K hS0
          try simp only [Act.put, List.setIfInBounds_toArray, List.set_cons_zero, List.set_cons_succ]
          refine takeL (i := 9) (v := ?vf9) rfl (by kernel_rfl) (by kernel_rfl) (by kernel_rfl) (by decide) (fun _ _ _ h => h) (Or.inl ⟨by rfl, ?hyf9⟩) (by assumption) ?_
          case hyf9 => (intro w hSw; (try dsimp only at hSw); go_simp; (try with_reducible rfl))
          try simp only [Act.put, List.setIfInBounds_toArray, List.set_cons_zero, List.set_cons_succ]
          refine doneL (by kernel_rfl) ?_ _
          have hZ := (HFR.out v8 (HON.out.trans (only_of_below hk8))).2.2.1
          obtain ⟨y0, y1, y2, y3, y4, y5, y6, y7, y8⟩ := cells9 hZ
          have yz := fun o => frozen_of_block (o := o) hZ
          have hM := lt_of_block hZ
          have FIN := hid (zero_out (B := w.heap.size + 1 + 1) (HFR.out v8 (HON.out.trans (only_of_below hk8))).2.2.2.2 (by omega))
          have HE := hid (HF2.out (allC_false HJ.out HC1.out))
          clear hZ hk8 HS HFZ HCS HMT
          go_wp2_with fail
          rw [HE.out.1, HE.out.2]
          exact bodyPost_ret (v := .tuple #[.agg (Array.mk [.int .i64 0, .string ByteArray.empty, .int .i64 0, .int .i64 0, .slice none 0 0, .int .i64 0, .slice none 0 0, .int .i64 0, .slice none 0 0]), .bool false]) (by simp [results, Tryd.results29, go_sem, y0, y1, y2, y3, y4, y5, y6, y7, y8]; rfl) rfl FIN.out
        | true =>
          have HC1 := hid HC0.out
          rw [HMM.out rfl] at HCU
          clear HMM
          go_wp2_with fail
          refine regionL (s := 8) (S0 := (fun _ => True)) (S1 := (fun w' => w'.cell? ⟨b1, o1 + j * 2, none⟩ = some (.int .i64 kx) ∧ w'.cell? ⟨b1, o1 + j * 2 + 1, none⟩ = some (.slice ax nx cx) ∧ w'.cell? ⟨b2, o2 + j * 2, none⟩ = some (.int .i64 ky) ∧ w'.cell? ⟨b2, o2 + j * 2 + 1, none⟩ = some (.slice ay ny cy))) (by kernel_rfl) (trivial) (HS.out _ (below_drew wr)) (fun hS0 => ?_)
          refine takeL (i := 0) (v := ?vt1) rfl (by kernel_rfl) (by kernel_rfl) (by kernel_rfl) (by decide) (fun _ _ _ h => h) (Or.inl ⟨by rfl, ?hyt1⟩) (by assumption) ?_
          case hyt1 => (intro w hSw; (try dsimp only at hSw); go_simp; (try with_reducible rfl))
          try simp only [Act.put, List.setIfInBounds_toArray, List.set_cons_zero, List.set_cons_succ]
          refine takeL (i := 1) (v := ?vt2) rfl (by kernel_rfl) (by kernel_rfl) (by kernel_rfl) (by decide) (fun _ _ _ h => h) (Or.inl ⟨by rfl, ?hyt2⟩) (by assumption) ?_
          case hyt2 => (intro w hSw; (try dsimp only at hSw); go_simp; (try with_reducible rfl))
          try simp only [Act.put, List.setIfInBounds_toArray, List.set_cons_zero, List.set_cons_succ]
          refine takeL (i := 2) (v := ?vt3) rfl (by kernel_rfl) (by kernel_rfl) (by kernel_rfl) (by decide) (fun _ _ _ h => h) (Or.inl ⟨by rfl, ?hyt3⟩) (by assumption) ?_
          case hyt3 => (intro w hSw; (try dsimp only at hSw); go_simp; (try with_reducible rfl))
          try simp only [Act.put, List.setIfInBounds_toArray, List.set_cons_zero, List.set_cons_succ]
          refine takeL0 (i := 3) (v := ?vt4) rfl rfl (by kernel_rfl) (by kernel_rfl) (by kernel_rfl) (by decide) (by kernel_rfl) (by kernel_rfl) (fun _ _ _ h => h) (Or.inl ⟨by rfl, ?hyt4⟩) (by assumption) ?_
          case hyt4 => (intro w hSw; (try dsimp only at hSw); go_simp; (try with_reducible rfl))
          try simp only [Act.put, List.setIfInBounds_toArray, List.set_cons_zero, List.set_cons_succ]
          refine takeL (i := 4) (v := ?vt5) rfl (by kernel_rfl) (by kernel_rfl) (by kernel_rfl) (by decide) (fun _ _ _ h => h) (Or.inl ⟨by rfl, ?hyt5⟩) (by assumption) ?_
          case hyt5 => (intro w hSw; (try dsimp only at hSw); go_simp; (try with_reducible rfl))
          try simp only [Act.put, List.setIfInBounds_toArray, List.set_cons_zero, List.set_cons_succ]
          refine takeL (i := 5) (v := ?vt6) rfl (by kernel_rfl) (by kernel_rfl) (by kernel_rfl) (by decide) (fun _ _ _ h => h) (Or.inl ⟨by rfl, ?hyt6⟩) (by assumption) ?_
          case hyt6 => (intro w hSw; (try dsimp only at hSw); go_simp; (try with_reducible rfl))
          try simp only [Act.put, List.setIfInBounds_toArray, List.set_cons_zero, List.set_cons_succ]
          refine takeL (i := 6) (v := ?vt7) rfl (by kernel_rfl) (by kernel_rfl) (by kernel_rfl) (by decide) (fun _ _ _ h => h) (Or.inl ⟨by rfl, ?hyt7⟩) (by assumption) ?_
          case hyt7 => (intro w hSw; (try dsimp only at hSw); go_simp; (try with_reducible rfl))
          try simp only [Act.put, List.setIfInBounds_toArray, List.set_cons_zero, List.set_cons_succ]
          refine takeL0 (i := 7) (v := ?vt8) rfl rfl (by kernel_rfl) (by kernel_rfl) (by kernel_rfl) (by decide) (by kernel_rfl) (by kernel_rfl) (fun _ _ _ h => h) (Or.inl ⟨by rfl, ?hyt8⟩) (by assumption) ?_
          case hyt8 => (intro w hSw; (try dsimp only at hSw); go_simp; (try with_reducible rfl))
          try simp only [Act.put, List.setIfInBounds_toArray, List.set_cons_zero, List.set_cons_succ]
          refine readyL (rs := [8]) (by kernel_rfl) (by simp) ?_
          refine AllReadyL.cons rfl (fun K hK => ?_) AllReadyL.nil
          go_simp
          refine (HCS.out _ (below_drew wr)).mono ?_
          rintro e v8 ⟨rfl, hy8⟩
          have hk8 : Below wr.heap.size wr v8 := below_trans (below_drew wr) hy8
          refine hK.out _ _ ?_ (fun hS1 => ?_)
          · exact ⟨HS.out _ hk8, fun h => absurd (h.symm.trans (show _ = true by kernel_rfl)) (by decide)⟩
          clear hK K hS0
          try simp only [Act.put, List.setIfInBounds_toArray, List.set_cons_zero, List.set_cons_succ]
          refine takeL (i := 9) (v := ?vt9) rfl (by kernel_rfl) (by kernel_rfl) (by kernel_rfl) (by decide) (fun _ _ _ h => h) (Or.inl ⟨by rfl, ?hyt9⟩) (by assumption) ?_
          case hyt9 => (intro w hSw; (try dsimp only at hSw); go_simp; (try with_reducible rfl))
          try simp only [Act.put, List.setIfInBounds_toArray, List.set_cons_zero, List.set_cons_succ]
          refine doneL (by kernel_rfl) ?_ _
          go_upto_region 12 with (fail)
          refine regionL (s := 12) (S0 := (fun w' => w'.cell? ⟨b1, o1 + j * 2, none⟩ = some (.int .i64 kx) ∧ w'.cell? ⟨b1, o1 + j * 2 + 1, none⟩ = some (.slice ax nx cx) ∧ w'.cell? ⟨b2, o2 + j * 2, none⟩ = some (.int .i64 ky) ∧ w'.cell? ⟨b2, o2 + j * 2 + 1, none⟩ = some (.slice ay ny cy))) (S1 := (fun _ => True)) (by kernel_rfl) (HS.out _ hk8.drew) (trivial) (fun hS0 => ?_)
          refine takeL0 (i := 0) (v := ?vm1) rfl rfl (by kernel_rfl) (by kernel_rfl) (by kernel_rfl) (by decide) (by kernel_rfl) (by kernel_rfl) (fun _ _ _ h => h) (Or.inl ⟨by rfl, ?hym1⟩) (by assumption) ?_
          case hym1 => (intro w hSw; (try dsimp only at hSw); go_simp; (try with_reducible rfl))
          try simp only [Act.put, List.setIfInBounds_toArray, List.set_cons_zero, List.set_cons_succ]
          refine takeL0 (i := 1) (v := ?vm2) rfl rfl (by kernel_rfl) (by kernel_rfl) (by kernel_rfl) (by decide) (by kernel_rfl) (by kernel_rfl) (fun _ _ _ h => h) (Or.inl ⟨by rfl, ?hym2⟩) (by assumption) ?_
          case hym2 => (intro w hSw; (try dsimp only at hSw); go_simp; (try with_reducible rfl))
          try simp only [Act.put, List.setIfInBounds_toArray, List.set_cons_zero, List.set_cons_succ]
          refine takeL0 (i := 2) (v := ?vm3) rfl rfl (by kernel_rfl) (by kernel_rfl) (by kernel_rfl) (by decide) (by kernel_rfl) (by kernel_rfl) (fun _ _ _ h => h) (Or.inl ⟨by rfl, ?hym3⟩) (by assumption) ?_
          case hym3 => (intro w hSw; (try dsimp only at hSw); go_simp; (try with_reducible rfl))
          try simp only [Act.put, List.setIfInBounds_toArray, List.set_cons_zero, List.set_cons_succ]
          refine takeL0 (i := 3) (v := ?vm4) rfl rfl (by kernel_rfl) (by kernel_rfl) (by kernel_rfl) (by decide) (by kernel_rfl) (by kernel_rfl) (fun _ _ _ h => h) (Or.inl ⟨by rfl, ?hym4⟩) (by assumption) ?_
          case hym4 => (intro w hSw; (try dsimp only at hSw); go_simp; (try with_reducible rfl))
          try simp only [Act.put, List.setIfInBounds_toArray, List.set_cons_zero, List.set_cons_succ]
          refine takeL0 (i := 4) (v := ?vm5) rfl rfl (by kernel_rfl) (by kernel_rfl) (by kernel_rfl) (by decide) (by kernel_rfl) (by kernel_rfl) (fun _ _ _ h => h) (Or.inl ⟨by rfl, ?hym5⟩) (by assumption) ?_
          case hym5 => (intro w hSw; (try dsimp only at hSw); go_simp; (try with_reducible rfl))
          try simp only [Act.put, List.setIfInBounds_toArray, List.set_cons_zero, List.set_cons_succ]
          refine takeL0 (i := 5) (v := ?vm6) rfl rfl (by kernel_rfl) (by kernel_rfl) (by kernel_rfl) (by decide) (by kernel_rfl) (by kernel_rfl) (fun _ _ _ h => h) (Or.inl ⟨by rfl, ?hym6⟩) (by assumption) ?_
          case hym6 => (intro w hSw; (try dsimp only at hSw); go_simp; (try with_reducible rfl))
          try simp only [Act.put, List.setIfInBounds_toArray, List.set_cons_zero, List.set_cons_succ]
          refine takeL0 (i := 6) (v := ?vm7) rfl rfl (by kernel_rfl) (by kernel_rfl) (by kernel_rfl) (by decide) (by kernel_rfl) (by kernel_rfl) (fun _ _ _ h => h) (Or.inl ⟨by rfl, ?hym7⟩) (by assumption) ?_
          case hym7 => (intro w hSw; (try dsimp only at hSw); go_simp; (try with_reducible rfl))
          try simp only [Act.put, List.setIfInBounds_toArray, List.set_cons_zero, List.set_cons_succ]
          refine takeL0 (i := 7) (v := ?vm8) rfl rfl (by kernel_rfl) (by kernel_rfl) (by kernel_rfl) (by decide) (by kernel_rfl) (by kernel_rfl) (fun _ _ _ h => h) (Or.inl ⟨by rfl, ?hym8⟩) (by assumption) ?_
          case hym8 => (intro w hSw; (try dsimp only at hSw); go_simp; (try with_reducible rfl))
          try simp only [Act.put, List.setIfInBounds_toArray, List.set_cons_zero, List.set_cons_succ]
          refine takeL0 (i := 8) (v := ?vm9) rfl rfl (by kernel_rfl) (by kernel_rfl) (by kernel_rfl) (by decide) (by kernel_rfl) (by kernel_rfl) (fun _ _ _ h => h) (Or.inl ⟨by rfl, ?hym9⟩) (by assumption) ?_
          case hym9 => (intro w hSw; (try dsimp only at hSw); go_simp; (try with_reducible rfl))
          try simp only [Act.put, List.setIfInBounds_toArray, List.set_cons_zero, List.set_cons_succ]
          refine takeL0 (i := 9) (v := ?vm10) rfl rfl (by kernel_rfl) (by kernel_rfl) (by kernel_rfl) (by decide) (by kernel_rfl) (by kernel_rfl) (fun _ _ _ h => h) (Or.inl ⟨by rfl, ?hym10⟩) (by assumption) ?_
          case hym10 => (intro w hSw; (try dsimp only at hSw); go_simp; (try with_reducible rfl))
          try simp only [Act.put, List.setIfInBounds_toArray, List.set_cons_zero, List.set_cons_succ]
          refine readyL (rs := [10]) (by kernel_rfl) (by simp) ?_
          refine AllReadyL.cons rfl (fun K hK => ?_) AllReadyL.nil
          go_simp
          refine (HMT.out (by trivial) _ hk8.drew).mono ?_
          rintro e ya ⟨vm, gm, rfl, hatm, hfm, hya⟩
          obtain ⟨km, nm, am, cm, rfl⟩ := hatm.agg
          have hka : Below wr.heap.size wr ya := below_trans hk8.drew hya
          refine hK.out _ _ ?_ (fun hS1 => ?_)
          · exact ⟨trivial, fun _ => HS.out _ hka⟩
          clear hK K hS0
          try simp only [Act.put, List.setIfInBounds_toArray, List.set_cons_zero, List.set_cons_succ]
          refine takeL0 (i := 11) (v := ?vm11) rfl rfl (by kernel_rfl) (by kernel_rfl) (by kernel_rfl) (by decide) (by kernel_rfl) (by kernel_rfl) (fun _ _ _ h => h) (Or.inl ⟨by rfl, ?hym11⟩) (by assumption) ?_
          case hym11 => (intro w hSw; (try dsimp only at hSw); go_simp; (try with_reducible rfl))
          try simp only [Act.put, List.setIfInBounds_toArray, List.set_cons_zero, List.set_cons_succ]
          refine readyL (rs := [12]) (by kernel_rfl) (by simp) ?_
          refine AllReadyL.cons rfl (fun K hK => ?_) AllReadyL.nil
          have fz := HFZ.out ya hka
          have hlb : b1 < ya.heap.size := Nat.lt_of_lt_of_le HLB.out hka.size
          obtain ⟨t0, t1, t2, t3⟩ := HS.out _ hka
          go_simp
          refine hK.out _ _ ?_ (fun hS2 => ?_)
          · exact ⟨trivial, fun h => absurd (h.symm.trans (show _ = true by kernel_rfl)) (by decide)⟩
          clear hK K hS1
          try simp only [Act.put, List.setIfInBounds_toArray, List.set_cons_zero, List.set_cons_succ]
          refine doneL (by kernel_rfl) ?_ _
          have hgb : b1 ∉ gm := fun hm => by have h1 := (hfm.2 b1 hm).1; have h2 := HLB.out; have h3 := hk8.drew.size; omega
          obtain ⟨f9, hl9, hb9⟩ := row_set (x := .int .i64 km) (y := .slice am nm cm) HL.out hka HBF.out HJ1.out hatm hgb
          rw [HCU.out] at hl9
          have HR := hid (And.intro hl9 hb9)
          have HON2 := hid ((HON.out.trans (only_of_below (fp := [b1]) hka)).trans ((Only.setCell (fp := [b1]) (b := b1) (o := o1 + j * 2) (by simp) (.int .i64 km)).trans (Only.setCell (fp := [b1]) (b := b1) (o := o1 + j * 2 + 1) (by simp) (.slice am nm cm))))
          have HCC2 := hid (show ∀ i, i < j + 1 → consOf (nthT A i) (nthT B i) = true from fun i hi => by by_cases h : i < j; exact HCC.out i h; obtain rfl : i = j := (by omega); exact HC1.out)
          clear hl9 hb9 hgb hatm hfm hya hka hk8 HS HFZ HCS HMT
          go_wp2_with fail
          exact ⟨⟨j + 1, f9, by omega, by go_num, HCC2.out, HR.out.1, HR.out.2, HON2.out⟩, by simp [intOf]; omega⟩
      · obtain rfl : j = A.length := by omega
        rw [curT_all] at hl
        have hac := allC_true hcc
        have HE := hid (HF3.out HSE.out hac)
        have HLC := hid (fun u hu => HMC.out hac u hu)
        have HSL := hid (show SlAt wr (mts A B) (.slice (some ⟨b1, o1, none⟩) A.length cap1) (b1 :: f) from by
          have hml := mts_len A B
          refine .inr ⟨b1, o1, cap1, f, by rw [hml], by omega, by omega, by unfold maxLen; omega, hl, rfl⟩)
        clear hl hbf hcc hac
        have hA9 := (HFR.out wr hon).1
        have HZ9 := hid (HFR.out wr hon).2.2.1
        obtain ⟨x0, x1, x2, x3, x4, x5, x6, x7, x8⟩ := cells9 hA9
        have HW9 := hid (HWT.out _ HLC.out _ _ _ (HFR.out wr hon).2.2.2.1 HSL.out)
        have HB9 := hid (HFR.out wr hon).2.2.2.2
        clear hA9
        go_wp2_with fail
        refine HW9.out.mono ?_
        rintro e w9 ⟨v', f', rfl, hu, hf, hb9⟩
        obtain ⟨r0, r1, r2, r3, r4, r5, r6, r7, r8, r9, r10, r11, r12, r13, r14, rfl⟩ := hu.agg
        have hZ4 := blk HZ9.out hb9
        obtain ⟨y0, y1, y2, y3, y4, y5, y6, y7, y8⟩ := cells9 hZ4
        have yz := fun o => frozen_of_block (o := o) hZ4
        have hM := lt_of_block hZ4
        have hsr := lt_of_block HZ9.out
        have b9 := below_trans HB9.out hb9
        have ab : Above wr.heap.size w9 (put w9 (w.heap.size + 1 + 1) 0 [.int .i64 r0, .string r1, .int .i64 r2, .int .i64 r3, .slice r5 r4 r6, .int .i64 r7, .slice r9 r8 r10, .int .i64 r11, .slice r13 r12 r14]) := (Above.refl _ _).put (by omega)
        have FIN := hid (show MadeMB w (wiM (mts A B) a) (wiOk (mts A B) a) (.returned (.tuple #[.agg (Array.mk [.int .i64 r0, .string r1, .int .i64 r2, .int .i64 r3, .slice r5 r4 r6, .int .i64 r7, .slice r9 r8 r10, .int .i64 r11, .slice r13 r12 r14]), .bool (wiOk (mts A B) a)])) (put w9 (w.heap.size + 1 + 1) 0 [.int .i64 r0, .string r1, .int .i64 r2, .int .i64 r3, .slice r5 r4 r6, .int .i64 r7, .slice r9 r8 r10, .int .i64 r11, .slice r13 r12 r14]) from
          ⟨_, f', rfl, hu.above ab hf.ge, (hf.above ab (Nat.le_refl _)).mono (by omega), below_put b9 (by omega)⟩)
        generalize wiOk (mts A B) a = okk at *
        generalize wiM (mts A B) a = EE at *
        clear x0 x1 x2 x3 x4 x5 x6 x7 x8 hu hf hb9 hZ4 b9 ab HW9
        go_wp2_with fail
        rw [HE.out.1, HE.out.2]
        exact bodyPost_ret (v := .tuple #[.agg (Array.mk [.int .i64 r0, .string r1, .int .i64 r2, .int .i64 r3, .slice r5 r4 r6, .int .i64 r7, .slice r9 r8 r10, .int .i64 r11, .slice r13 r12 r14]), .bool okk]) (by simp [results, Tryd.results29, go_sem, y0, y1, y2, y3, y4, y5, y6, y7, y8]) rfl FIN.out
end Go.Proofs.YtffmpjcjmffdeaaDoor
