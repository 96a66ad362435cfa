/- The law FnEraseTerm: it returns true and writes nothing that was there. -/
import Derived.Test.YtffmpjcjmffdeaaDoorVG40
import Derived.Test.YtffmpjcjmffdeaaDoorVErP
import Derived.Test.YtffmpjcjmffdeaaDoorVMs3
import Derived.Test.YtffmpjcjmffdeaaDoorVTysT
import Derived.Test.YtffmpjcjmffdeaaDoorVG1
import Derived.Test.YtffmpjcjmffdeaaDoorVG12
import Derived.Test.YtffmpjcjmffdeaaDoorVPkE
namespace Go.Proofs.YtffmpjcjmffdeaaDoor
open Go.RowKit

theorem any_one : anyOf (.mk 1 []) = 1 := by decide
theorem dep_one : depOf (.mk 1 []) = 1 := by decide

set_option linter.unusedSimpArgs false in
set_option linter.unusedVariables false in
set_option maxRecDepth 100000 in
set_option maxHeartbeats 16000000 in
theorem lawDErs (a00 : Option Addr) (n00 cap00 : Nat) (w : World) (hF : Forms w) (hB0 : BytA w a00 n00) (hn0 : n00 ≤ cap00) (hm0 : cap00 ≤ maxLen) :
    Calls Tryd.prog 8 #[.slice a00 n00 cap00] w fun e w' => e = .returned (.bool true) ∧ Below w.heap.size w w' := by
  by_cases hl0 : (n00 : Int) > 1048576
  · clear hB0
    go_enter Tryd.func8, Tryd.ntmps8
    go_wp2_with fail
    go_ret
    exact ⟨rfl, Below.refl _ _⟩
  have HD := hid (drawEraseTerm_any a00 n00 cap00 w hB0 hn0 hm0)
  have HF := hid hF
  clear hB0 hF
  go_enter Tryd.func8, Tryd.ntmps8
  go_wp2_with fail
  refine HD.out.mono ?_
  rintro e z ⟨t, v, f, rfl, hts, hat, hfz, hbz⟩
  obtain ⟨p0, p1, p2, p3, p4, p5, p6, p7, p8, p9, p10, p11, p12, p13, p14, rfl⟩ := hat.agg
  have hba : Below z.heap.size z (z.alloc (Obj.cells #[.int .i64 p0, .string p1, .int .i64 p2, .int .i64 p3, .slice p5 p4 p6, .int .i64 p7, .slice p9 p8 p10, .int .i64 p11, .slice p13 p12 p14] 35)) := (Below.refl _ _).alloc (Nat.le_refl _) _
  have hbb := below_trans hbz hba
  have HBB := hid hbb
  have hsz := erT_sz9 t
  have HBE := hid (fun (W : World) (h : Below (z.alloc (Obj.cells #[.int .i64 p0, .string p1, .int .i64 p2, .int .i64 p3, .slice p5 p4 p6, .int .i64 p7, .slice p9 p8 p10, .int .i64 p11, .slice p13 p12 p14] 35)).heap.size (z.alloc (Obj.cells #[.int .i64 p0, .string p1, .int .i64 p2, .int .i64 p3, .slice p5 p4 p6, .int .i64 p7, .slice p9 p8 p10, .int .i64 p11, .slice p13 p12 p14] 35)) W) => (show W.heap[z.heap.size]? = some (Obj.cells #[.int .i64 p0, .string p1, .int .i64 p2, .int .i64 p3, .slice p5 p4 p6, .int .i64 p7, .slice p9 p8 p10, .int .i64 p11, .slice p13 p12 p14] 35) from (h.block _ (lt_of_block (alloc_new z _))).trans (alloc_new z _)))
  have HIE := hid (fun (W : World) (h : Below (z.alloc (Obj.cells #[.int .i64 p0, .string p1, .int .i64 p2, .int .i64 p3, .slice p5 p4 p6, .int .i64 p7, .slice p9 p8 p10, .int .i64 p11, .slice p13 p12 p14] 35)).heap.size (z.alloc (Obj.cells #[.int .i64 p0, .string p1, .int .i64 p2, .int .i64 p3, .slice p5 p4 p6, .int .i64 p7, .slice p9 p8 p10, .int .i64 p11, .slice p13 p12 p14] 35)) W) => implEraseTerm t _ _ W (by omega) ((HF.out.below hbb).below h) ((hat.below hba).below h))
  have HSE := hid (fun (W : World) (h : Below (z.alloc (Obj.cells #[.int .i64 p0, .string p1, .int .i64 p2, .int .i64 p3, .slice p5 p4 p6, .int .i64 p7, .slice p9 p8 p10, .int .i64 p11, .slice p13 p12 p14] 35)).heap.size (z.alloc (Obj.cells #[.int .i64 p0, .string p1, .int .i64 p2, .int .i64 p3, .slice p5 p4 p6, .int .i64 p7, .slice p9 p8 p10, .int .i64 p11, .slice p13 p12 p14] 35)) W) => specEraseTerm t _ _ W (by omega) ((hat.below hba).below h))
  have HFN := hid (fun (W : World) (h : Below (z.alloc (Obj.cells #[.int .i64 p0, .string p1, .int .i64 p2, .int .i64 p3, .slice p5 p4 p6, .int .i64 p7, .slice p9 p8 p10, .int .i64 p11, .slice p13 p12 p14] 35)).heap.size (z.alloc (Obj.cells #[.int .i64 p0, .string p1, .int .i64 p2, .int .i64 p3, .slice p5 p4 p6, .int .i64 p7, .slice p9 p8 p10, .int .i64 p11, .slice p13 p12 p14] 35)) W) => implFreeNames t _ _ W (by omega) ((HF.out.below hbb).below h) ((hat.below hba).below h))
  have HCN := hid (fun (W : World) (h : Below (z.alloc (Obj.cells #[.int .i64 p0, .string p1, .int .i64 p2, .int .i64 p3, .slice p5 p4 p6, .int .i64 p7, .slice p9 p8 p10, .int .i64 p11, .slice p13 p12 p14] 35)).heap.size (z.alloc (Obj.cells #[.int .i64 p0, .string p1, .int .i64 p2, .int .i64 p3, .slice p5 p4 p6, .int .i64 p7, .slice p9 p8 p10, .int .i64 p11, .slice p13 p12 p14] 35)) W) => implCountNodes t _ _ W ((HF.out.below hbb).below h) ((hat.below hba).below h))
  have HFW := hid (fun (W : World) (h : Below (z.alloc (Obj.cells #[.int .i64 p0, .string p1, .int .i64 p2, .int .i64 p3, .slice p5 p4 p6, .int .i64 p7, .slice p9 p8 p10, .int .i64 p11, .slice p13 p12 p14] 35)).heap.size (z.alloc (Obj.cells #[.int .i64 p0, .string p1, .int .i64 p2, .int .i64 p3, .slice p5 p4 p6, .int .i64 p7, .slice p9 p8 p10, .int .i64 p11, .slice p13 p12 p14] 35)) W) => (HF.out.below hbb).below h)
  have HSZ := hid (show (erT t).sz ≤ 1048576 by omega)
  clear hat hfz hbz hba hbb hts hsz
  go_wp2_with fail
  refine (HIE.out _ (Below.refl _ _)).mono ?_
  rintro e w2 ⟨vx, fx, rfl, hx, hfx, hb2⟩
  obtain ⟨c0, c1, c2, c3, c4, c5, c6, c7, c8, c9, c10, c11, c12, c13, c14, rfl⟩ := hx.agg
  have hal2 : Below w2.heap.size w2 (w2.alloc (Obj.cells #[.int .i64 c0, .string c1, .int .i64 c2, .int .i64 c3, .slice c5 c4 c6, .int .i64 c7, .slice c9 c8 c10, .int .i64 c11, .slice c13 c12 c14] 35)) := (Below.refl _ _).alloc (Nat.le_refl _) _
  have HB2 := hid (below_trans hb2 hal2)
  have HX := hid (And.intro (hx.below hal2) (hfx.below hal2))
  have HXB := hid (alloc_new w2 (Obj.cells #[.int .i64 c0, .string c1, .int .i64 c2, .int .i64 c3, .slice c5 c4 c6, .int .i64 c7, .slice c9 c8 c10, .int .i64 c11, .slice c13 c12 c14] 35))
  obtain ⟨x0, x1, x2, x3, x4, x5, x6, x7, x8⟩ := cells9 (HBE.out _ HB2.out)
  clear hx hfx hb2 hal2
  go_wp2_with fail
  refine (HSE.out _ HB2.out).mono ?_
  rintro e w3 ⟨vy, fy, rfl, hy, hfy, hb3⟩
  obtain ⟨d0, d1, d2, d3, d4, d5, d6, d7, d8, d9, d10, d11, d12, d13, d14, rfl⟩ := hy.agg
  have hal3 : Below w3.heap.size w3 (w3.alloc (Obj.cells #[.int .i64 d0, .string d1, .int .i64 d2, .int .i64 d3, .slice d5 d4 d6, .int .i64 d7, .slice d9 d8 d10, .int .i64 d11, .slice d13 d12 d14] 35)) := (Below.refl _ _).alloc (Nat.le_refl _) _
  have hb3' := below_trans hb3 hal3
  have HB3 := hid (below_trans HB2.out hb3')
  have HYB := hid (alloc_new w3 (Obj.cells #[.int .i64 d0, .string d1, .int .i64 d2, .int .i64 d3, .slice d5 d4 d6, .int .i64 d7, .slice d9 d8 d10, .int .i64 d11, .slice d13 d12 d14] 35))
  have HX3 := hid (And.intro (HX.out.1.below hb3') (HX.out.2.below hb3'))
  have HXB3 := hid (blk HXB.out hb3')
  have HTS1 := hid (fun (W : World) (h : Below (w3.alloc (Obj.cells #[.int .i64 d0, .string d1, .int .i64 d2, .int .i64 d3, .slice d5 d4 d6, .int .i64 d7, .slice d9 d8 d10, .int .i64 d11, .slice d13 d12 d14] 35)).heap.size (w3.alloc (Obj.cells #[.int .i64 d0, .string d1, .int .i64 d2, .int .i64 d3, .slice d5 d4 d6, .int .i64 d7, .slice d9 d8 d10, .int .i64 d11, .slice d13 d12 d14] 35)) W) => implTermSame (erT t) (erT t) _ _ _ _ W (by have := HSZ.out; omega) (HX3.out.1.below h) ((hy.below hal3).below h) (fun x hx => Raw.belowMm (Fresh.rawM HX3.out.1 HX3.out.2 x hx) h) (fun x hx => Raw.belowMm (Fresh.rawM (hy.below hal3) (hfy.below hal3) x hx) h))
  obtain ⟨u0, u1, u2, u3, u4, u5, u6, u7, u8⟩ := cells9 HXB3.out
  obtain ⟨y0, y1, y2, y3, y4, y5, y6, y7, y8⟩ := cells9 HYB.out
  clear hy hfy hb3 hal3 hb3' x0 x1 x2 x3 x4 x5 x6 x7 x8
  cases hv : vldM t with
  | false =>
    clear hv
    go_wp2_with fail
    refine (HTS1.out _ (Below.refl _ _)).mono ?_
    rw [tmEq_refl]
    rintro e w4 ⟨rfl, hb4⟩
    have HT2 := hid (HTS1.out w4 hb4)
    rw [tmEq_refl] at HT2
    have HB4 := hid (below_trans HBB.out (below_trans HB3.out hb4))
    replace u0 := cell_keep u0 hb4
    replace y0 := cell_keep y0 hb4
    replace u1 := cell_keep u1 hb4
    replace y1 := cell_keep y1 hb4
    replace u2 := cell_keep u2 hb4
    replace y2 := cell_keep y2 hb4
    replace u3 := cell_keep u3 hb4
    replace y3 := cell_keep y3 hb4
    replace u4 := cell_keep u4 hb4
    replace y4 := cell_keep y4 hb4
    replace u5 := cell_keep u5 hb4
    replace y5 := cell_keep y5 hb4
    replace u6 := cell_keep u6 hb4
    replace y6 := cell_keep y6 hb4
    replace u7 := cell_keep u7 hb4
    replace y7 := cell_keep y7 hb4
    replace u8 := cell_keep u8 hb4
    replace y8 := cell_keep y8 hb4
    clear hb4
    go_wp2_with fail
    refine HT2.out.mono ?_
    rintro e w5 ⟨rfl, hb5⟩
    have HB5 := hid (below_trans HB4.out hb5)
    clear hb5 u0 u1 u2 u3 u4 u5 u6 u7 u8 y0 y1 y2 y3 y4 y5 y6 y7 y8
    go_wp2_with fail
    go_ret
    exact ⟨rfl, HB5.out⟩
  | true =>
    obtain ⟨g1, g2, g3, g4, g5⟩ := er_facts hv
    have HG := hid (And.intro g1 (And.intro g2 (And.intro g3 (And.intro g4 g5))))
    clear hv g1 g2 g3 g4 g5
    go_wp2_with fail
    refine (HTS1.out _ (Below.refl _ _)).mono ?_
    rw [tmEq_refl]
    rintro e w4 ⟨rfl, hb4⟩
    have HB4 := hid (below_trans HB3.out hb4)
    have HX4 := hid (And.intro (HX3.out.1.below hb4) (HX3.out.2.below hb4))
    have HXB4 := hid (blk HXB3.out hb4)
    have HIE2 := hid (implEraseTerm (erT t) _ _ w4 HSZ.out (HFW.out _ HB4.out) HX4.out.1)
    rw [HG.out.1, HG.out.2.1] at HIE2
    clear hb4 u0 u1 u2 u3 u4 u5 u6 u7 u8 y0 y1 y2 y3 y4 y5 y6 y7 y8
    obtain ⟨u0, u1, u2, u3, u4, u5, u6, u7, u8⟩ := cells9 HXB4.out
    go_wp2_with fail
    refine HIE2.out.mono ?_
    rintro e w5 ⟨vg, fg, rfl, hg, hfg, hb5⟩
    obtain ⟨g0, g1, g2, g3, g4, g5, g6, g7, g8, g9, g10, g11, g12, g13, g14, rfl⟩ := hg.agg
    have hal5 : Below w5.heap.size w5 (w5.alloc (Obj.cells #[.int .i64 g0, .string g1, .int .i64 g2, .int .i64 g3, .slice g5 g4 g6, .int .i64 g7, .slice g9 g8 g10, .int .i64 g11, .slice g13 g12 g14] 35)) := (Below.refl _ _).alloc (Nat.le_refl _) _
    have hb5' := below_trans hb5 hal5
    have HB5 := hid (below_trans HB4.out hb5')
    have HX5 := hid (And.intro (HX4.out.1.below hb5') (HX4.out.2.below hb5'))
    have HXB5 := hid (blk HXB4.out hb5')
    have HG5 := hid (And.intro (hg.below hal5) (And.intro (hfg.below hal5) (alloc_new w5 (Obj.cells #[.int .i64 g0, .string g1, .int .i64 g2, .int .i64 g3, .slice g5 g4 g6, .int .i64 g7, .slice g9 g8 g10, .int .i64 g11, .slice g13 g12 g14] 35))))
    have HTY := hid (implTermTypes (erT t) _ _ (w5.alloc (Obj.cells #[.int .i64 g0, .string g1, .int .i64 g2, .int .i64 g3, .slice g5 g4 g6, .int .i64 g7, .slice g9 g8 g10, .int .i64 g11, .slice g13 g12 g14] 35)) HSZ.out (HFW.out _ HB5.out) HX5.out.1)
    have HALL := hid HG.out.2.2.1
    generalize tyLst (erT t) = L at *
    clear hg hfg hb5 hal5 hb5' u0 u1 u2 u3 u4 u5 u6 u7 u8
    obtain ⟨u0, u1, u2, u3, u4, u5, u6, u7, u8⟩ := cells9 HXB5.out
    go_wp2_with fail
    refine HTY.out.mono ?_
    rintro e w6 ⟨s6, f6, rfl, hs6, hf6, hb6⟩
    obtain ⟨a6, cap6, rfl, hcap6, hm6, hget⟩ := hs6.openA
    have HGET := hid hget
    have HB6 := hid hb6
    clear hs6 hf6 hb6 hget u0 u1 u2 u3 u4 u5 u6 u7 u8
    go_wp2_with fail
    go_loopw [11] (fun i wr => ∃ j : Nat, j ≤ L.length ∧ i = .int .i64 j ∧ Below w6.heap.size w6 wr) (fun i _ => L.length - (intOf i).toNat)
    case atStart => exact ⟨0, Nat.zero_le _, rfl, Below.refl _ _⟩
    case round =>
      obtain ⟨j, hj, rfl, hbr⟩ := hrel
      have HR := hid hbr
      by_cases hlk : j < L.length
      · obtain ⟨b, o, kk, nn, aa, cc, gg, rfl, hblt, c0', c1', hatk, -⟩ := HGET.out j hlk
        have e1 := HALL.out _ (List.getElem_mem hlk)
        rw [e1] at hatk
        replace c0' := cell_keep c0' hbr
        replace c1' := cell_keep c1' hbr
        have HCA := hid (fun (W : World) (h : Below wr.heap.size wr W) => implCountAny (.mk 1 []) _ _ W ((hatk.below hbr).below h) (by simp [Ty.cnt, cntL]))
        have HTD := hid (fun (W : World) (h : Below wr.heap.size wr W) => implTypeDepth (.mk 1 []) _ _ W ((hatk.below hbr).below h) (by simp [Ty.cnt, cntL]))
        rw [any_one] at HCA
        rw [dep_one] at HTD
        have hj0 : (0 : Int) ≤ (j : Int) := by omega
        have hj1 : (j : Int) < (L.length : Int) := by omega
        clear hatk e1 hbr
        go_wp2_with fail
        refine (HCA.out _ (Below.refl _ _)).mono ?_
        rintro e w7 ⟨rfl, hb7⟩
        replace c0' := cell_keep c0' hb7
        replace c1' := cell_keep c1' hb7
        have HT7 := hid (HTD.out w7 hb7)
        have HR7 := hid (below_trans HR.out hb7)
        clear hb7
        go_wp2_with fail
        refine HT7.out.mono ?_
        rintro e w8 ⟨rfl, hb8⟩
        have HR8 := hid (below_trans HR7.out hb8)
        clear hb8 c0' c1'
        go_wp2_with fail
        exact ⟨⟨j + 1, by omega, by go_num, HR8.out⟩, by simp [intOf]; omega⟩
      · obtain rfl : j = L.length := by omega
        have h5r := below_trans HB6.out hbr
        have hzr := below_trans HB5.out h5r
        have HBR := hid (below_trans HBB.out hzr)
        have HXr := hid (And.intro (HX5.out.1.below h5r) (HX5.out.2.below h5r))
        have HGr := hid (And.intro (HG5.out.1.below h5r) (HG5.out.2.1.below h5r))
        obtain ⟨u0, u1, u2, u3, u4, u5, u6, u7, u8⟩ := cells9 (blk HXB5.out h5r)
        obtain ⟨y0, y1, y2, y3, y4, y5, y6, y7, y8⟩ := cells9 (blk HG5.out.2.2 h5r)
        obtain ⟨x0, x1, x2, x3, x4, x5, x6, x7, x8⟩ := cells9 (HBE.out _ hzr)
        have HS := hid (fun (W : World) (h : Below wr.heap.size wr W) => (show W.cell? ⟨w2.heap.size, 0, none⟩ = some (.int .i64 c0) ∧ W.cell? ⟨w2.heap.size, 1, none⟩ = some (.string c1) ∧ W.cell? ⟨w2.heap.size, 2, none⟩ = some (.int .i64 c2) ∧ W.cell? ⟨w2.heap.size, 3, none⟩ = some (.int .i64 c3) ∧ W.cell? ⟨w2.heap.size, 4, none⟩ = some (.slice c5 c4 c6) ∧ W.cell? ⟨w2.heap.size, 5, none⟩ = some (.int .i64 c7) ∧ W.cell? ⟨w2.heap.size, 6, none⟩ = some (.slice c9 c8 c10) ∧ W.cell? ⟨w2.heap.size, 7, none⟩ = some (.int .i64 c11) ∧ W.cell? ⟨w2.heap.size, 8, none⟩ = some (.slice c13 c12 c14) ∧ W.cell? ⟨w5.heap.size, 0, none⟩ = some (.int .i64 g0) ∧ W.cell? ⟨w5.heap.size, 1, none⟩ = some (.string g1) ∧ W.cell? ⟨w5.heap.size, 2, none⟩ = some (.int .i64 g2) ∧ W.cell? ⟨w5.heap.size, 3, none⟩ = some (.int .i64 g3) ∧ W.cell? ⟨w5.heap.size, 4, none⟩ = some (.slice g5 g4 g6) ∧ W.cell? ⟨w5.heap.size, 5, none⟩ = some (.int .i64 g7) ∧ W.cell? ⟨w5.heap.size, 6, none⟩ = some (.slice g9 g8 g10) ∧ W.cell? ⟨w5.heap.size, 7, none⟩ = some (.int .i64 g11) ∧ W.cell? ⟨w5.heap.size, 8, none⟩ = some (.slice g13 g12 g14) ∧ W.cell? ⟨z.heap.size, 0, none⟩ = some (.int .i64 p0) ∧ W.cell? ⟨z.heap.size, 1, none⟩ = some (.string p1) ∧ W.cell? ⟨z.heap.size, 2, none⟩ = some (.int .i64 p2) ∧ W.cell? ⟨z.heap.size, 3, none⟩ = some (.int .i64 p3) ∧ W.cell? ⟨z.heap.size, 4, none⟩ = some (.slice p5 p4 p6) ∧ W.cell? ⟨z.heap.size, 5, none⟩ = some (.int .i64 p7) ∧ W.cell? ⟨z.heap.size, 6, none⟩ = some (.slice p9 p8 p10) ∧ W.cell? ⟨z.heap.size, 7, none⟩ = some (.int .i64 p11) ∧ W.cell? ⟨z.heap.size, 8, none⟩ = some (.slice p13 p12 p14) from ⟨cell_keep u0 h, cell_keep u1 h, cell_keep u2 h, cell_keep u3 h, cell_keep u4 h, cell_keep u5 h, cell_keep u6 h, cell_keep u7 h, cell_keep u8 h, cell_keep y0 h, cell_keep y1 h, cell_keep y2 h, cell_keep y3 h, cell_keep y4 h, cell_keep y5 h, cell_keep y6 h, cell_keep y7 h, cell_keep y8 h, cell_keep x0 h, cell_keep x1 h, cell_keep x2 h, cell_keep x3 h, cell_keep x4 h, cell_keep x5 h, cell_keep x6 h, cell_keep x7 h, cell_keep x8 h⟩))
        have HTA := hid (fun (W : World) (h : Below wr.heap.size wr W) => implTermSame (erT t) (erT t) _ _ _ _ W (by have := HSZ.out; omega) (HGr.out.1.below h) (HXr.out.1.below h) (fun x hx => Raw.belowMm (Fresh.rawM HGr.out.1 HGr.out.2 x hx) h) (fun x hx => Raw.belowMm (Fresh.rawM HXr.out.1 HXr.out.2 x hx) h))
        have HFX := hid (fun (W : World) (h : Below wr.heap.size wr W) => implFreeNames (erT t) _ _ W HSZ.out (HFW.out _ (below_trans hzr h)) (HXr.out.1.below h))
        have HFE := hid (fun (W : World) (h : Below wr.heap.size wr W) => HFN.out _ (below_trans hzr h))
        have HCX := hid (fun (W : World) (h : Below wr.heap.size wr W) => implCountNodes (erT t) _ _ W (HFW.out _ (below_trans hzr h)) (HXr.out.1.below h))
        have HCE := hid (fun (W : World) (h : Below wr.heap.size wr W) => HCN.out _ (below_trans hzr h))
        rw [tmEq_refl] at HTA
        rw [HG.out.2.2.2.1] at HFX
        rw [HG.out.2.2.2.2] at HCX
        generalize freeS t = FS at *
        generalize cntN t = CNN at *
        clear hbr h5r hzr u0 u1 u2 u3 u4 u5 u6 u7 u8 y0 y1 y2 y3 y4 y5 y6 y7 y8 x0 x1 x2 x3 x4 x5 x6 x7 x8
        go_wp2_with fail
        refine regionL (s := 20) (S0 := (fun _ => True)) (S1 := (fun w' => w'.cell? ⟨w2.heap.size, 0, none⟩ = some (.int .i64 c0) ∧ w'.cell? ⟨w2.heap.size, 1, none⟩ = some (.string c1) ∧ w'.cell? ⟨w2.heap.size, 2, none⟩ = some (.int .i64 c2) ∧ w'.cell? ⟨w2.heap.size, 3, none⟩ = some (.int .i64 c3) ∧ w'.cell? ⟨w2.heap.size, 4, none⟩ = some (.slice c5 c4 c6) ∧ w'.cell? ⟨w2.heap.size, 5, none⟩ = some (.int .i64 c7) ∧ w'.cell? ⟨w2.heap.size, 6, none⟩ = some (.slice c9 c8 c10) ∧ w'.cell? ⟨w2.heap.size, 7, none⟩ = some (.int .i64 c11) ∧ w'.cell? ⟨w2.heap.size, 8, none⟩ = some (.slice c13 c12 c14) ∧ w'.cell? ⟨w5.heap.size, 0, none⟩ = some (.int .i64 g0) ∧ w'.cell? ⟨w5.heap.size, 1, none⟩ = some (.string g1) ∧ w'.cell? ⟨w5.heap.size, 2, none⟩ = some (.int .i64 g2) ∧ w'.cell? ⟨w5.heap.size, 3, none⟩ = some (.int .i64 g3) ∧ w'.cell? ⟨w5.heap.size, 4, none⟩ = some (.slice g5 g4 g6) ∧ w'.cell? ⟨w5.heap.size, 5, none⟩ = some (.int .i64 g7) ∧ w'.cell? ⟨w5.heap.size, 6, none⟩ = some (.slice g9 g8 g10) ∧ w'.cell? ⟨w5.heap.size, 7, none⟩ = some (.int .i64 g11) ∧ w'.cell? ⟨w5.heap.size, 8, none⟩ = some (.slice g13 g12 g14) ∧ w'.cell? ⟨z.heap.size, 0, none⟩ = some (.int .i64 p0) ∧ w'.cell? ⟨z.heap.size, 1, none⟩ = some (.string p1) ∧ w'.cell? ⟨z.heap.size, 2, none⟩ = some (.int .i64 p2) ∧ w'.cell? ⟨z.heap.size, 3, none⟩ = some (.int .i64 p3) ∧ w'.cell? ⟨z.heap.size, 4, none⟩ = some (.slice p5 p4 p6) ∧ w'.cell? ⟨z.heap.size, 5, none⟩ = some (.int .i64 p7) ∧ w'.cell? ⟨z.heap.size, 6, none⟩ = some (.slice p9 p8 p10) ∧ w'.cell? ⟨z.heap.size, 7, none⟩ = some (.int .i64 p11) ∧ w'.cell? ⟨z.heap.size, 8, none⟩ = some (.slice p13 p12 p14))) (by kernel_rfl) (trivial) (HS.out _ (below_drew wr)) (fun hS0 => ?_)
        refine takeL0 (i := 0) (v := ?vz1) rfl rfl (by kernel_rfl) (by kernel_rfl) (by kernel_rfl) (by decide) (by kernel_rfl) (by kernel_rfl) (fun _ _ _ h => h) (Or.inl ⟨by rfl, ?hyz1⟩) (by assumption) ?_
        case hyz1 => (intro w hSw; (try dsimp only at hSw); go_simp; (try with_reducible rfl))
        try simp only [Act.put, List.setIfInBounds_toArray, List.set_cons_zero, List.set_cons_succ]
        refine takeL0 (i := 1) (v := ?vz2) rfl rfl (by kernel_rfl) (by kernel_rfl) (by kernel_rfl) (by decide) (by kernel_rfl) (by kernel_rfl) (fun _ _ _ h => h) (Or.inl ⟨by rfl, ?hyz2⟩) (by assumption) ?_
        case hyz2 => (intro w hSw; (try dsimp only at hSw); go_simp; (try with_reducible rfl))
        try simp only [Act.put, List.setIfInBounds_toArray, List.set_cons_zero, List.set_cons_succ]
        refine takeL0 (i := 2) (v := ?vz3) rfl rfl (by kernel_rfl) (by kernel_rfl) (by kernel_rfl) (by decide) (by kernel_rfl) (by kernel_rfl) (fun _ _ _ h => h) (Or.inl ⟨by rfl, ?hyz3⟩) (by assumption) ?_
        case hyz3 => (intro w hSw; (try dsimp only at hSw); go_simp; (try with_reducible rfl))
        try simp only [Act.put, List.setIfInBounds_toArray, List.set_cons_zero, List.set_cons_succ]
        refine takeL0 (i := 3) (v := ?vz4) rfl rfl (by kernel_rfl) (by kernel_rfl) (by kernel_rfl) (by decide) (by kernel_rfl) (by kernel_rfl) (fun _ _ _ h => h) (Or.inl ⟨by rfl, ?hyz4⟩) (by assumption) ?_
        case hyz4 => (intro w hSw; (try dsimp only at hSw); go_simp; (try with_reducible rfl))
        try simp only [Act.put, List.setIfInBounds_toArray, List.set_cons_zero, List.set_cons_succ]
        refine readyL (rs := [4]) (by kernel_rfl) (by simp) ?_
        refine AllReadyL.cons rfl (fun K hK => ?_) AllReadyL.nil
        go_simp
        refine (HTA.out _ (below_drew wr)).mono ?_
        rintro e v4 ⟨rfl, hy4⟩
        have hk4 : Below wr.heap.size wr v4 := below_trans (below_drew wr) hy4
        refine hK.out _ _ ?_ (fun hS1 => ?_)
        · exact ⟨HS.out _ hk4, fun _ => trivial⟩
        clear hK K hS0
        try simp only [Act.put, List.setIfInBounds_toArray, List.set_cons_zero, List.set_cons_succ]
        refine takeL0 (i := 5) (v := ?vz5) rfl rfl (by kernel_rfl) (by kernel_rfl) (by kernel_rfl) (by decide) (by kernel_rfl) (by kernel_rfl) (fun _ _ _ h => h) (Or.inl ⟨by rfl, ?hyz5⟩) (by assumption) ?_
        case hyz5 => (intro w hSw; (try dsimp only at hSw); go_simp; (try with_reducible rfl))
        try simp only [Act.put, List.setIfInBounds_toArray, List.set_cons_zero, List.set_cons_succ]
        refine takeL0 (i := 6) (v := ?vz6) rfl rfl (by kernel_rfl) (by kernel_rfl) (by kernel_rfl) (by decide) (by kernel_rfl) (by kernel_rfl) (fun _ _ _ h => h) (Or.inl ⟨by rfl, ?hyz6⟩) (by assumption) ?_
        case hyz6 => (intro w hSw; (try dsimp only at hSw); go_simp; (try with_reducible rfl))
        try simp only [Act.put, List.setIfInBounds_toArray, List.set_cons_zero, List.set_cons_succ]
        refine takeL0 (i := 7) (v := ?vz7) rfl rfl (by kernel_rfl) (by kernel_rfl) (by kernel_rfl) (by decide) (by kernel_rfl) (by kernel_rfl) (fun _ _ _ h => h) (Or.inl ⟨by rfl, ?hyz7⟩) (by assumption) ?_
        case hyz7 => (intro w hSw; (try dsimp only at hSw); go_simp; (try with_reducible rfl))
        try simp only [Act.put, List.setIfInBounds_toArray, List.set_cons_zero, List.set_cons_succ]
        refine takeL0 (i := 9) (v := ?vz8) rfl rfl (by kernel_rfl) (by kernel_rfl) (by kernel_rfl) (by decide) (by kernel_rfl) (by kernel_rfl) (fun _ _ _ h => h) (Or.inl ⟨by rfl, ?hyz8⟩) (by assumption) ?_
        case hyz8 => (intro w hSw; (try dsimp only at hSw); go_simp; (try with_reducible rfl))
        try simp only [Act.put, List.setIfInBounds_toArray, List.set_cons_zero, List.set_cons_succ]
        refine readyL (rs := [8]) (by kernel_rfl) (by simp) ?_
        refine AllReadyL.cons rfl (fun K hK => ?_) AllReadyL.nil
        go_simp
        refine (HFX.out _ hk4).mono ?_
        rintro e v8 ⟨rfl, hy8⟩
        have hk8 : Below wr.heap.size wr v8 := below_trans hk4 hy8
        refine hK.out _ _ ?_ (fun hS2 => ?_)
        · exact ⟨HS.out _ hk8, fun _ => trivial⟩
        clear hK K hS1
        try simp only [Act.put, List.setIfInBounds_toArray, List.set_cons_zero, List.set_cons_succ]
        refine readyL (rs := [10]) (by kernel_rfl) (by simp) ?_
        refine AllReadyL.cons rfl (fun K hK => ?_) AllReadyL.nil
        go_simp
        refine (HFE.out _ hk8).mono ?_
        rintro e v10 ⟨rfl, hy10⟩
        have hk10 : Below wr.heap.size wr v10 := below_trans hk8 hy10
        refine hK.out _ _ ?_ (fun hS3 => ?_)
        · exact ⟨HS.out _ hk10, fun _ => trivial⟩
        clear hK K hS2
        try simp only [Act.put, List.setIfInBounds_toArray, List.set_cons_zero, List.set_cons_succ]
        refine takeL0 (i := 11) (v := ?vz9) rfl rfl (by kernel_rfl) (by kernel_rfl) (by kernel_rfl) (by decide) (by kernel_rfl) (by kernel_rfl) (fun _ _ _ h => h) (Or.inl ⟨by rfl, ?hyz9⟩) (by assumption) ?_
        case hyz9 => (intro w hSw; (try dsimp only at hSw); go_simp; (try with_reducible rfl))
        try simp only [Act.put, List.setIfInBounds_toArray, List.set_cons_zero, List.set_cons_succ]
        refine takeL0 (i := 12) (v := ?vz10) rfl rfl (by kernel_rfl) (by kernel_rfl) (by kernel_rfl) (by decide) (by kernel_rfl) (by kernel_rfl) (fun _ _ _ h => h) (Or.inl ⟨by rfl, ?hyz10⟩) (by assumption) ?_
        case hyz10 => (intro w hSw; (try dsimp only at hSw); go_simp; (try with_reducible rfl))
        try simp only [Act.put, List.setIfInBounds_toArray, List.set_cons_zero, List.set_cons_succ]
        refine takeL0 (i := 13) (v := ?vz11) rfl rfl (by kernel_rfl) (by kernel_rfl) (by kernel_rfl) (by decide) (by kernel_rfl) (by kernel_rfl) (fun _ _ _ h => h) (Or.inl ⟨by rfl, ?hyz11⟩) (by assumption) ?_
        case hyz11 => (intro w hSw; (try dsimp only at hSw); go_simp; (try with_reducible rfl))
        try simp only [Act.put, List.setIfInBounds_toArray, List.set_cons_zero, List.set_cons_succ]
        refine takeL0 (i := 14) (v := ?vz12) rfl rfl (by kernel_rfl) (by kernel_rfl) (by kernel_rfl) (by decide) (by kernel_rfl) (by kernel_rfl) (fun _ _ _ h => h) (Or.inl ⟨by rfl, ?hyz12⟩) (by assumption) ?_
        case hyz12 => (intro w hSw; (try dsimp only at hSw); go_simp; (try with_reducible rfl))
        try simp only [Act.put, List.setIfInBounds_toArray, List.set_cons_zero, List.set_cons_succ]
        refine takeL0 (i := 16) (v := ?vz13) rfl rfl (by kernel_rfl) (by kernel_rfl) (by kernel_rfl) (by decide) (by kernel_rfl) (by kernel_rfl) (fun _ _ _ h => h) (Or.inl ⟨by rfl, ?hyz13⟩) (by assumption) ?_
        case hyz13 => (intro w hSw; (try dsimp only at hSw); go_simp; (try with_reducible rfl))
        try simp only [Act.put, List.setIfInBounds_toArray, List.set_cons_zero, List.set_cons_succ]
        refine readyL (rs := [15]) (by kernel_rfl) (by simp) ?_
        refine AllReadyL.cons rfl (fun K hK => ?_) AllReadyL.nil
        go_simp
        refine (HCX.out _ hk10).mono ?_
        rintro e v15 ⟨rfl, hy15⟩
        have hk15 : Below wr.heap.size wr v15 := below_trans hk10 hy15
        refine hK.out _ _ ?_ (fun hS4 => ?_)
        · exact ⟨HS.out _ hk15, fun _ => trivial⟩
        clear hK K hS3
        try simp only [Act.put, List.setIfInBounds_toArray, List.set_cons_zero, List.set_cons_succ]
        refine readyL (rs := [17]) (by kernel_rfl) (by simp) ?_
        refine AllReadyL.cons rfl (fun K hK => ?_) AllReadyL.nil
        go_simp
        refine (HCE.out _ hk15).mono ?_
        rintro e v17 ⟨rfl, hy17⟩
        have hk17 : Below wr.heap.size wr v17 := below_trans hk15 hy17
        refine hK.out _ _ ?_ (fun hS5 => ?_)
        · exact ⟨HS.out _ hk17, fun _ => trivial⟩
        clear hK K hS4
        try simp only [Act.put, List.setIfInBounds_toArray, List.set_cons_zero, List.set_cons_succ]
        refine takeL0 (i := 18) (v := ?vz14) rfl rfl (by kernel_rfl) (by kernel_rfl) (by kernel_rfl) (by decide) (by kernel_rfl) (by kernel_rfl) (fun _ _ _ h => h) (Or.inl ⟨by rfl, ?hyz14⟩) (by assumption) ?_
        case hyz14 => (intro w hSw; (try dsimp only at hSw); go_simp; (try with_reducible rfl))
        try simp only [Act.put, List.setIfInBounds_toArray, List.set_cons_zero, List.set_cons_succ]
        refine takeL0 (i := 19) (v := ?vz15) rfl rfl (by kernel_rfl) (by kernel_rfl) (by kernel_rfl) (by decide) (by kernel_rfl) (by kernel_rfl) (fun _ _ _ h => h) (Or.inl ⟨by rfl, ?hyz15⟩) (by assumption) ?_
        case hyz15 => (intro w hSw; (try dsimp only at hSw); go_simp; (try with_reducible rfl))
        try simp only [Act.put, List.setIfInBounds_toArray, List.set_cons_zero, List.set_cons_succ]
        refine readyL (rs := [20]) (by kernel_rfl) (by simp) ?_
        refine AllReadyL.cons rfl (fun K hK => ?_) AllReadyL.nil
        go_simp
        refine hK.out _ _ ?_ (fun hS6 => ?_)
        · exact ⟨HS.out _ hk17, fun h => absurd (h.symm.trans (show _ = true by kernel_rfl)) (by decide)⟩
        clear hK K hS5
        try simp only [Act.put, List.setIfInBounds_toArray, List.set_cons_zero, List.set_cons_succ]
        refine doneL (by kernel_rfl) ?_ _
        have HEND := hid (below_trans HBR.out hk17)
        clear HS HTA HFX HFE HCX HCE
        go_wp2_with fail
        first | go_ret | skip
        exact ⟨rfl, HEND.out⟩
end Go.Proofs.YtffmpjcjmffdeaaDoor
