/- The law on TermPrecise: it returns true and writes nothing that was there. -/
import Derived.Test.YtppjeeklckdlgaaDoorPkB
import Derived.Test.YtppjeeklckdlgaaDoorPmS
import Derived.Test.YtppjeeklckdlgaaDoorPmI
import Derived.Deep.RegionHeld3
namespace Go.Proofs.YtppjeeklckdlgaaDoor
open Go.RowKit

theorem two_boxMm {w wr : World} {o1 o2 : Obj} (h : Below ((w.alloc o1).alloc o2).heap.size ((w.alloc o1).alloc o2) wr) :
    wr.heap[w.heap.size]? = some o1 ∧ wr.heap[w.heap.size + 1]? = some o2 := by
  refine ⟨(h.block w.heap.size (by simp; omega)).trans ((Below.heap_alloc _ _ _ (by simp)).trans (alloc_new w _)), ?_⟩
  rw [h.block _ (by simp)]
  have := alloc_new (w.alloc o1) o2
  simpa using this

set_option maxHeartbeats 8000000 in
set_option maxRecDepth 100000 in
theorem lawTermPrecise (t : Tm) (v : Value) (fp : List Nat) (u : Tm) (v2 : Value) (fp2 : List Nat) (w : World) (hF : Forms w) (hat : t.At w v fp) (hau : u.At w v2 fp2) :
    Calls Tryd.prog 3 #[v, v2] w fun e w' => e = .returned (.bool true) ∧ Below w.heap.size w w' := by
  obtain ⟨k, nm, num, k1, n1, a1, c1, k2, n2, a2, c2, lb, n3, a3, c3, rfl⟩ := hat.agg
  obtain ⟨kv, nmv, numv, k1v, n1v, a1v, c1v, k2v, n2v, a2v, c2v, lbv, n3v, a3v, c3v, rfl⟩ := hau.agg
  have hb0 : Below w.heap.size w ((w.alloc (Obj.cells #[.int .i64 k, .string nm, .int .i64 num, .int .i64 k1, .slice a1 n1 c1, .int .i64 k2, .slice a2 n2 c2, .int .i64 lb, .slice a3 n3 c3] 27)).alloc (Obj.cells #[.int .i64 kv, .string nmv, .int .i64 numv, .int .i64 k1v, .slice a1v n1v c1v, .int .i64 k2v, .slice a2v n2v c2v, .int .i64 lbv, .slice a3v n3v c3v] 27)) := ((Below.refl _ _).alloc (Nat.le_refl _) _).alloc (by simp) _
  by_cases hc : t.sz ≤ 1048576
  case neg =>
    have HS := hid (show szM t.sz 1048576 = -1 by unfold szM; rw [if_neg (by omega)])
    go_enter Tryd.func3, Tryd.ntmps3
    go_wp2_with fail
    refine (szTerm_any t _ fp 1048576 _ (by omega) (by omega) (hat.below hb0)).mono ?_
    rw [HS.out]
    rintro e w1 ⟨rfl, hb1⟩
    go_wp2_with fail
    go_ret
    exact ⟨rfl, below_trans hb0 hb1⟩
  have hpos : (0 : Int) ≤ 1048576 - (t.sz : Int) := by omega
  have HS := hid (show szM t.sz 1048576 = 1048576 - (t.sz : Int) by unfold szM; rw [if_pos (by omega)])
  by_cases hc2 : (u.sz : Int) ≤ 1048576 - (t.sz : Int)
  case neg =>
    have HS2 := hid (show szM u.sz (1048576 - (t.sz : Int)) = -1 by unfold szM; rw [if_neg (by omega)])
    go_enter Tryd.func3, Tryd.ntmps3
    go_wp2_with fail
    refine (szTerm_any t _ fp 1048576 _ (by omega) (by omega) (hat.below hb0)).mono ?_
    rw [HS.out]
    rintro e w1 ⟨rfl, hb1⟩
    obtain ⟨hA, hV⟩ := two_boxMm hb1
    obtain ⟨x0, x1, x2, x3, x4, x5, x6, x7, x8⟩ := cells9 hA
    obtain ⟨s0, s1, s2, s3, s4, s5, s6, s7, s8⟩ := cells9 hV
    clear hA hV
    go_wp2_with fail
    refine (szTerm_any u _ fp2 _ _ (by omega) (by omega) (hau.below (below_trans hb0 hb1))).mono ?_
    rw [HS2.out]
    rintro e w2 ⟨rfl, hb2⟩
    go_wp2_with fail
    go_ret
    exact ⟨rfl, below_trans hb0 (below_trans hb1 hb2)⟩
  have HS2 := hid (show szM u.sz (1048576 - (t.sz : Int)) = 1048576 - (t.sz : Int) - (u.sz : Int) by unfold szM; rw [if_pos (by omega)])
  have hpos2 : (0 : Int) ≤ 1048576 - (t.sz : Int) - (u.sz : Int) := by omega
  have hcu : u.sz ≤ 1048576 := by omega
  have HSP := hid (fun (v : Value) (fp : List Nat) (v2 : Value) (fp2 : List Nat) (w : World) (h : t.At w v fp) (h2 : u.At w v2 fp2) => specTermPrecise t u v v2 fp fp2 w (by omega) (by omega) h h2)
  have HIM := hid (fun (v : Value) (fp : List Nat) (v2 : Value) (fp2 : List Nat) (w : World) (hF : Forms w) (h : t.At w v fp) (h2 : u.At w v2 fp2) (r1 : Fresh 0 w fp) (r2 : Fresh 0 w fp2) => implTermPrecise t u v v2 fp fp2 w (by omega) (by omega) hF h h2)
  go_enter Tryd.func3, Tryd.ntmps3
  go_wp2_with fail
  refine (szTerm_any t _ fp 1048576 _ (by omega) (by omega) (hat.below hb0)).mono ?_
  rw [HS.out]
  rintro e w1 ⟨rfl, hb1⟩
  have hz := below_trans hb0 hb1
  replace hat := hat.below hz
  replace hau := hau.below hz
  obtain ⟨hA, hV⟩ := two_boxMm hb1
  obtain ⟨x0, x1, x2, x3, x4, x5, x6, x7, x8⟩ := cells9 hA
  obtain ⟨s0, s1, s2, s3, s4, s5, s6, s7, s8⟩ := cells9 hV
  replace hF := hF.below hz
  clear hb0 hb1 hA hV
  go_wp2_with fail
  refine (szTerm_any u _ fp2 _ _ (by omega) (by omega) hau).mono ?_
  rw [HS2.out]
  rintro e z1 ⟨rfl, hb⟩
  replace x0 := cell_keep x0 hb
  replace x1 := cell_keep x1 hb
  replace x2 := cell_keep x2 hb
  replace x3 := cell_keep x3 hb
  replace x4 := cell_keep x4 hb
  replace x5 := cell_keep x5 hb
  replace x6 := cell_keep x6 hb
  replace x7 := cell_keep x7 hb
  replace x8 := cell_keep x8 hb
  replace s0 := cell_keep s0 hb
  replace s1 := cell_keep s1 hb
  replace s2 := cell_keep s2 hb
  replace s3 := cell_keep s3 hb
  replace s4 := cell_keep s4 hb
  replace s5 := cell_keep s5 hb
  replace s6 := cell_keep s6 hb
  replace s7 := cell_keep s7 hb
  replace s8 := cell_keep s8 hb
  replace hat := hat.below hb
  replace hau := hau.below hb
  replace hF := hF.below hb
  replace hz := below_trans hz hb
  clear hb
  go_wp2_with fail
  go_region_held3 (fun w' => Below z1.heap.size z1 w' ∧ w'.cell? ⟨w.heap.size, 0, none⟩ = some (.int .i64 k) ∧ w'.cell? ⟨w.heap.size, 1, none⟩ = some (.string nm) ∧ w'.cell? ⟨w.heap.size, 2, none⟩ = some (.int .i64 num) ∧ w'.cell? ⟨w.heap.size, 3, none⟩ = some (.int .i64 k1) ∧ w'.cell? ⟨w.heap.size, 4, none⟩ = some (.slice a1 n1 c1) ∧ w'.cell? ⟨w.heap.size, 5, none⟩ = some (.int .i64 k2) ∧ w'.cell? ⟨w.heap.size, 6, none⟩ = some (.slice a2 n2 c2) ∧ w'.cell? ⟨w.heap.size, 7, none⟩ = some (.int .i64 lb) ∧ w'.cell? ⟨w.heap.size, 8, none⟩ = some (.slice a3 n3 c3) ∧ w'.cell? ⟨(w.heap.size + 1), 0, none⟩ = some (.int .i64 kv) ∧ w'.cell? ⟨(w.heap.size + 1), 1, none⟩ = some (.string nmv) ∧ w'.cell? ⟨(w.heap.size + 1), 2, none⟩ = some (.int .i64 numv) ∧ w'.cell? ⟨(w.heap.size + 1), 3, none⟩ = some (.int .i64 k1v) ∧ w'.cell? ⟨(w.heap.size + 1), 4, none⟩ = some (.slice a1v n1v c1v) ∧ w'.cell? ⟨(w.heap.size + 1), 5, none⟩ = some (.int .i64 k2v) ∧ w'.cell? ⟨(w.heap.size + 1), 6, none⟩ = some (.slice a2v n2v c2v) ∧ w'.cell? ⟨(w.heap.size + 1), 7, none⟩ = some (.int .i64 lbv) ∧ w'.cell? ⟨(w.heap.size + 1), 8, none⟩ = some (.slice a3v n3v c3v))
    ((refine (fun hB => ⟨hB, cell_keep x0 hB, cell_keep x1 hB, cell_keep x2 hB, cell_keep x3 hB, cell_keep x4 hB, cell_keep x5 hB, cell_keep x6 hB, cell_keep x7 hB, cell_keep x8 hB, cell_keep s0 hB, cell_keep s1 hB, cell_keep s2 hB, cell_keep s3 hB, cell_keep s4 hB, cell_keep s5 hB, cell_keep s6 hB, cell_keep s7 hB, cell_keep s8 hB⟩ : Below z1.heap.size z1 _ → _) ?_; (first | with_reducible exact below_drew z1 | with_reducible exact hk3 | with_reducible exact hk2 | with_reducible exact hk1)))
    (first
      | (go_at_call_of 11 (Value.agg #[.int .i64 k, .string nm, .int .i64 num, .int .i64 k1, .slice a1 n1 c1, .int .i64 k2, .slice a2 n2 c2, .int .i64 lb, .slice a3 n3 c3]); refine (toTerm_any t _ _ _ (hat.below (below_drew z1)) hc).mono ?_; rintro e y1 ⟨u1, g1, rfl, hu1, hg1, hy1⟩; have hk1 := below_trans (below_drew z1) hy1)
      | (go_at_call_of 11 (Value.agg #[.int .i64 kv, .string nmv, .int .i64 numv, .int .i64 k1v, .slice a1v n1v c1v, .int .i64 k2v, .slice a2v n2v c2v, .int .i64 lbv, .slice a3v n3v c3v]); refine (toTerm_any u _ _ _ (hau.below hk1) hcu).mono ?_; rintro e y2 ⟨u2, g2, rfl, hu2, hg2, hy2⟩; have hk2 := below_trans hk1 hy2)
      | (go_at_call 10; refine (HSP.out _ _ _ _ _ (hu1.below hy2) hu2).mono ?_; rintro e y3 ⟨rfl, hy3⟩; have hk3 := below_trans hk2 hy3))
  replace x0 := cell_keep x0 hk3
  replace x1 := cell_keep x1 hk3
  replace x2 := cell_keep x2 hk3
  replace x3 := cell_keep x3 hk3
  replace x4 := cell_keep x4 hk3
  replace x5 := cell_keep x5 hk3
  replace x6 := cell_keep x6 hk3
  replace x7 := cell_keep x7 hk3
  replace x8 := cell_keep x8 hk3
  replace s0 := cell_keep s0 hk3
  replace s1 := cell_keep s1 hk3
  replace s2 := cell_keep s2 hk3
  replace s3 := cell_keep s3 hk3
  replace s4 := cell_keep s4 hk3
  replace s5 := cell_keep s5 hk3
  replace s6 := cell_keep s6 hk3
  replace s7 := cell_keep s7 hk3
  replace s8 := cell_keep s8 hk3
  replace hat := hat.below hk3
  replace hau := hau.below hk3
  replace hF := hF.below hk3
  replace hz := below_trans hz hk3
  clear hk1 hk2 hk3 hu1 hu2 hg1 hg2 hy1 hy2 hy3
  go_wp2_with fail
  refine (toTerm_any t _ fp _ hat hc).mono ?_
  rintro e y4 ⟨v4, f4, rfl, h4, hf4, hb4⟩
  obtain ⟨k4, nm4, num4, k14, n14, a14, c14, k24, n24, a24, c24, lb4, n34, a34, c34, rfl⟩ := h4.agg
  have hb4a : Below y4.heap.size y4 (y4.alloc (Obj.cells #[.int .i64 k4, .string nm4, .int .i64 num4, .int .i64 k14, .slice a14 n14 c14, .int .i64 k24, .slice a24 n24 c24, .int .i64 lb4, .slice a34 n34 c34] 35)) := (Below.refl _ _).alloc (Nat.le_refl _) _
  have hb := below_trans hb4 hb4a
  replace x0 := cell_keep x0 hb
  replace x1 := cell_keep x1 hb
  replace x2 := cell_keep x2 hb
  replace x3 := cell_keep x3 hb
  replace x4 := cell_keep x4 hb
  replace x5 := cell_keep x5 hb
  replace x6 := cell_keep x6 hb
  replace x7 := cell_keep x7 hb
  replace x8 := cell_keep x8 hb
  replace s0 := cell_keep s0 hb
  replace s1 := cell_keep s1 hb
  replace s2 := cell_keep s2 hb
  replace s3 := cell_keep s3 hb
  replace s4 := cell_keep s4 hb
  replace s5 := cell_keep s5 hb
  replace s6 := cell_keep s6 hb
  replace s7 := cell_keep s7 hb
  replace s8 := cell_keep s8 hb
  replace hat := hat.below hb
  replace hau := hau.below hb
  replace hF := hF.below hb
  replace hz := below_trans hz hb
  replace h4 := h4.below hb4a
  replace hf4 := hf4.below hb4a
  clear hb hb4 hb4a
  go_wp2_with fail
  refine (toTerm_any u _ fp2 _ hau hcu).mono ?_
  rintro e y5 ⟨v5, f5, rfl, h5, hf5, hb5⟩
  obtain ⟨k5, nm5, num5, k15, n15, a15, c15, k25, n25, a25, c25, lb5, n35, a35, c35, rfl⟩ := h5.agg
  obtain ⟨q0, q1, q2, q3, q4, q5, q6, q7, q8⟩ := box9 hb5
  have hb5a : Below y5.heap.size y5 (y5.alloc (Obj.cells #[.int .i64 k5, .string nm5, .int .i64 num5, .int .i64 k15, .slice a15 n15 c15, .int .i64 k25, .slice a25 n25 c25, .int .i64 lb5, .slice a35 n35 c35] 35)) := (Below.refl _ _).alloc (Nat.le_refl _) _
  have hb := below_trans hb5 hb5a
  replace x0 := cell_keep x0 hb
  replace x1 := cell_keep x1 hb
  replace x2 := cell_keep x2 hb
  replace x3 := cell_keep x3 hb
  replace x4 := cell_keep x4 hb
  replace x5 := cell_keep x5 hb
  replace x6 := cell_keep x6 hb
  replace x7 := cell_keep x7 hb
  replace x8 := cell_keep x8 hb
  replace s0 := cell_keep s0 hb
  replace s1 := cell_keep s1 hb
  replace s2 := cell_keep s2 hb
  replace s3 := cell_keep s3 hb
  replace s4 := cell_keep s4 hb
  replace s5 := cell_keep s5 hb
  replace s6 := cell_keep s6 hb
  replace s7 := cell_keep s7 hb
  replace s8 := cell_keep s8 hb
  replace hat := hat.below hb
  replace hau := hau.below hb
  replace hF := hF.below hb
  replace h4 := h4.below hb
  replace hz := below_trans hz hb
  replace hf4 := hf4.below hb
  replace q0 := cell_keep q0 hb5a
  replace q1 := cell_keep q1 hb5a
  replace q2 := cell_keep q2 hb5a
  replace q3 := cell_keep q3 hb5a
  replace q4 := cell_keep q4 hb5a
  replace q5 := cell_keep q5 hb5a
  replace q6 := cell_keep q6 hb5a
  replace q7 := cell_keep q7 hb5a
  replace q8 := cell_keep q8 hb5a
  replace h5 := h5.below hb5a
  replace hf5 := hf5.below hb5a
  clear hb hb5
  go_wp2_with fail
  refine (HIM.out _ _ _ _ _ hF h4 h5 (hf4.mono (Nat.zero_le _)) (hf5.mono (Nat.zero_le _))).mono ?_
  rintro e y6 ⟨rfl, hb⟩
  obtain ⟨p0, p1, p2, p3, p4, p5, p6, p7, p8⟩ := box9 hb
  replace x0 := cell_keep x0 hb
  replace x1 := cell_keep x1 hb
  replace x2 := cell_keep x2 hb
  replace x3 := cell_keep x3 hb
  replace x4 := cell_keep x4 hb
  replace x5 := cell_keep x5 hb
  replace x6 := cell_keep x6 hb
  replace x7 := cell_keep x7 hb
  replace x8 := cell_keep x8 hb
  replace s0 := cell_keep s0 hb
  replace s1 := cell_keep s1 hb
  replace s2 := cell_keep s2 hb
  replace s3 := cell_keep s3 hb
  replace s4 := cell_keep s4 hb
  replace s5 := cell_keep s5 hb
  replace s6 := cell_keep s6 hb
  replace s7 := cell_keep s7 hb
  replace s8 := cell_keep s8 hb
  replace q0 := cell_keep q0 hb
  replace q1 := cell_keep q1 hb
  replace q2 := cell_keep q2 hb
  replace q3 := cell_keep q3 hb
  replace q4 := cell_keep q4 hb
  replace q5 := cell_keep q5 hb
  replace q6 := cell_keep q6 hb
  replace q7 := cell_keep q7 hb
  replace q8 := cell_keep q8 hb
  replace hat := hat.below hb
  replace hau := hau.below hb
  replace hF := hF.below hb
  replace h4 := h4.below hb
  replace h5 := h5.below hb
  replace hz := below_trans hz hb
  clear hb hb5a hf4 hf5
  go_wp2_with fail
  go_region_held3 (fun w' => Below y6.heap.size y6 w' ∧ w'.cell? ⟨w.heap.size, 0, none⟩ = some (.int .i64 k) ∧ w'.cell? ⟨w.heap.size, 1, none⟩ = some (.string nm) ∧ w'.cell? ⟨w.heap.size, 2, none⟩ = some (.int .i64 num) ∧ w'.cell? ⟨w.heap.size, 3, none⟩ = some (.int .i64 k1) ∧ w'.cell? ⟨w.heap.size, 4, none⟩ = some (.slice a1 n1 c1) ∧ w'.cell? ⟨w.heap.size, 5, none⟩ = some (.int .i64 k2) ∧ w'.cell? ⟨w.heap.size, 6, none⟩ = some (.slice a2 n2 c2) ∧ w'.cell? ⟨w.heap.size, 7, none⟩ = some (.int .i64 lb) ∧ w'.cell? ⟨w.heap.size, 8, none⟩ = some (.slice a3 n3 c3) ∧ w'.cell? ⟨y4.heap.size, 0, none⟩ = some (.int .i64 k4) ∧ w'.cell? ⟨y4.heap.size, 1, none⟩ = some (.string nm4) ∧ w'.cell? ⟨y4.heap.size, 2, none⟩ = some (.int .i64 num4) ∧ w'.cell? ⟨y4.heap.size, 3, none⟩ = some (.int .i64 k14) ∧ w'.cell? ⟨y4.heap.size, 4, none⟩ = some (.slice a14 n14 c14) ∧ w'.cell? ⟨y4.heap.size, 5, none⟩ = some (.int .i64 k24) ∧ w'.cell? ⟨y4.heap.size, 6, none⟩ = some (.slice a24 n24 c24) ∧ w'.cell? ⟨y4.heap.size, 7, none⟩ = some (.int .i64 lb4) ∧ w'.cell? ⟨y4.heap.size, 8, none⟩ = some (.slice a34 n34 c34))
    ((refine (fun hB => ⟨hB, cell_keep x0 hB, cell_keep x1 hB, cell_keep x2 hB, cell_keep x3 hB, cell_keep x4 hB, cell_keep x5 hB, cell_keep x6 hB, cell_keep x7 hB, cell_keep x8 hB, cell_keep q0 hB, cell_keep q1 hB, cell_keep q2 hB, cell_keep q3 hB, cell_keep q4 hB, cell_keep q5 hB, cell_keep q6 hB, cell_keep q7 hB, cell_keep q8 hB⟩ : Below y6.heap.size y6 _ → _) ?_; (first | exact below_drew y6 | exact hk1 | exact hk2)))
    (first
      | (go_at_call 11; refine (toTerm_any t _ _ _ (hat.below (below_drew y6)) hc).mono ?_; rintro e y7 ⟨uu7, gg7, rfl, hu, hgg, hy⟩; have hk1 := below_trans (below_drew y6) hy)
      | (go_at_call 13; refine (eqTerm_any t _ _ _ _ _ (h4.below hk1) hu).mono ?_; rintro e y8 ⟨rfl, hyy⟩; have hk2 := below_trans hk1 hyy))
  replace x0 := cell_keep x0 hk2
  replace x1 := cell_keep x1 hk2
  replace x2 := cell_keep x2 hk2
  replace x3 := cell_keep x3 hk2
  replace x4 := cell_keep x4 hk2
  replace x5 := cell_keep x5 hk2
  replace x6 := cell_keep x6 hk2
  replace x7 := cell_keep x7 hk2
  replace x8 := cell_keep x8 hk2
  replace s0 := cell_keep s0 hk2
  replace s1 := cell_keep s1 hk2
  replace s2 := cell_keep s2 hk2
  replace s3 := cell_keep s3 hk2
  replace s4 := cell_keep s4 hk2
  replace s5 := cell_keep s5 hk2
  replace s6 := cell_keep s6 hk2
  replace s7 := cell_keep s7 hk2
  replace s8 := cell_keep s8 hk2
  replace q0 := cell_keep q0 hk2
  replace q1 := cell_keep q1 hk2
  replace q2 := cell_keep q2 hk2
  replace q3 := cell_keep q3 hk2
  replace q4 := cell_keep q4 hk2
  replace q5 := cell_keep q5 hk2
  replace q6 := cell_keep q6 hk2
  replace q7 := cell_keep q7 hk2
  replace q8 := cell_keep q8 hk2
  replace p0 := cell_keep p0 hk2
  replace p1 := cell_keep p1 hk2
  replace p2 := cell_keep p2 hk2
  replace p3 := cell_keep p3 hk2
  replace p4 := cell_keep p4 hk2
  replace p5 := cell_keep p5 hk2
  replace p6 := cell_keep p6 hk2
  replace p7 := cell_keep p7 hk2
  replace p8 := cell_keep p8 hk2
  replace hat := hat.below hk2
  replace hau := hau.below hk2
  replace hF := hF.below hk2
  replace h4 := h4.below hk2
  replace h5 := h5.below hk2
  replace hz := below_trans hz hk2
  clear hk1 hk2 hu hgg hy hyy
  go_wp2_with fail
  go_region_held3 (fun w' => Below y8.heap.size y8 w' ∧ w'.cell? ⟨(w.heap.size + 1), 0, none⟩ = some (.int .i64 kv) ∧ w'.cell? ⟨(w.heap.size + 1), 1, none⟩ = some (.string nmv) ∧ w'.cell? ⟨(w.heap.size + 1), 2, none⟩ = some (.int .i64 numv) ∧ w'.cell? ⟨(w.heap.size + 1), 3, none⟩ = some (.int .i64 k1v) ∧ w'.cell? ⟨(w.heap.size + 1), 4, none⟩ = some (.slice a1v n1v c1v) ∧ w'.cell? ⟨(w.heap.size + 1), 5, none⟩ = some (.int .i64 k2v) ∧ w'.cell? ⟨(w.heap.size + 1), 6, none⟩ = some (.slice a2v n2v c2v) ∧ w'.cell? ⟨(w.heap.size + 1), 7, none⟩ = some (.int .i64 lbv) ∧ w'.cell? ⟨(w.heap.size + 1), 8, none⟩ = some (.slice a3v n3v c3v) ∧ w'.cell? ⟨y5.heap.size, 0, none⟩ = some (.int .i64 k5) ∧ w'.cell? ⟨y5.heap.size, 1, none⟩ = some (.string nm5) ∧ w'.cell? ⟨y5.heap.size, 2, none⟩ = some (.int .i64 num5) ∧ w'.cell? ⟨y5.heap.size, 3, none⟩ = some (.int .i64 k15) ∧ w'.cell? ⟨y5.heap.size, 4, none⟩ = some (.slice a15 n15 c15) ∧ w'.cell? ⟨y5.heap.size, 5, none⟩ = some (.int .i64 k25) ∧ w'.cell? ⟨y5.heap.size, 6, none⟩ = some (.slice a25 n25 c25) ∧ w'.cell? ⟨y5.heap.size, 7, none⟩ = some (.int .i64 lb5) ∧ w'.cell? ⟨y5.heap.size, 8, none⟩ = some (.slice a35 n35 c35))
    ((refine (fun hB => ⟨hB, cell_keep s0 hB, cell_keep s1 hB, cell_keep s2 hB, cell_keep s3 hB, cell_keep s4 hB, cell_keep s5 hB, cell_keep s6 hB, cell_keep s7 hB, cell_keep s8 hB, cell_keep p0 hB, cell_keep p1 hB, cell_keep p2 hB, cell_keep p3 hB, cell_keep p4 hB, cell_keep p5 hB, cell_keep p6 hB, cell_keep p7 hB, cell_keep p8 hB⟩ : Below y8.heap.size y8 _ → _) ?_; (first | exact below_drew y8 | exact hk1 | exact hk2)))
    (first
      | (go_at_call 11; refine (toTerm_any u _ _ _ (hau.below (below_drew y8)) hcu).mono ?_; rintro e y9 ⟨uu9, gg9, rfl, hu, hgg, hy⟩; have hk1 := below_trans (below_drew y8) hy)
      | (go_at_call 13; refine (eqTerm_any u _ _ _ _ _ (h5.below hk1) hu).mono ?_; rintro e y10 ⟨rfl, hyy⟩; have hk2 := below_trans hk1 hyy))
  replace x0 := cell_keep x0 hk2
  replace x1 := cell_keep x1 hk2
  replace x2 := cell_keep x2 hk2
  replace x3 := cell_keep x3 hk2
  replace x4 := cell_keep x4 hk2
  replace x5 := cell_keep x5 hk2
  replace x6 := cell_keep x6 hk2
  replace x7 := cell_keep x7 hk2
  replace x8 := cell_keep x8 hk2
  replace s0 := cell_keep s0 hk2
  replace s1 := cell_keep s1 hk2
  replace s2 := cell_keep s2 hk2
  replace s3 := cell_keep s3 hk2
  replace s4 := cell_keep s4 hk2
  replace s5 := cell_keep s5 hk2
  replace s6 := cell_keep s6 hk2
  replace s7 := cell_keep s7 hk2
  replace s8 := cell_keep s8 hk2
  replace q0 := cell_keep q0 hk2
  replace q1 := cell_keep q1 hk2
  replace q2 := cell_keep q2 hk2
  replace q3 := cell_keep q3 hk2
  replace q4 := cell_keep q4 hk2
  replace q5 := cell_keep q5 hk2
  replace q6 := cell_keep q6 hk2
  replace q7 := cell_keep q7 hk2
  replace q8 := cell_keep q8 hk2
  replace p0 := cell_keep p0 hk2
  replace p1 := cell_keep p1 hk2
  replace p2 := cell_keep p2 hk2
  replace p3 := cell_keep p3 hk2
  replace p4 := cell_keep p4 hk2
  replace p5 := cell_keep p5 hk2
  replace p6 := cell_keep p6 hk2
  replace p7 := cell_keep p7 hk2
  replace p8 := cell_keep p8 hk2
  replace hat := hat.below hk2
  replace hau := hau.below hk2
  replace hF := hF.below hk2
  replace h4 := h4.below hk2
  replace h5 := h5.below hk2
  replace hz := below_trans hz hk2
  clear hk1 hk2 hu hgg hy hyy
  go_wp2_with fail
  go_ret
  exact ⟨rfl, hz⟩
end Go.Proofs.YtppjeeklckdlgaaDoor
