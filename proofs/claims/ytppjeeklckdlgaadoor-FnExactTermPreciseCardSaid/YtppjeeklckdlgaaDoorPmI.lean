/- The program's TermPrecise. -/
import Derived.Test.YtppjeeklckdlgaaDoorPmE
import Derived.Deep.RegionHeld3
namespace Go.Proofs.YtppjeeklckdlgaaDoor
open Go.RowKit

mutual
theorem ers_sz : ∀ t : Tm, (ers t).sz ≤ t.sz
  | .mk k nm num ty fr lb ts => by
    have h1 := (ersL_sz ts).1
    have h2 := (ersL_sz ts).2
    have h3 : (Ty.mk 1 []).cnt = 0 := by simp [Ty.cnt, cntL]
    simp only [ers, Tm.sz]
    split
    · rw [h3]; omega
    · omega
theorem ersL_sz : ∀ ts : List Tm, szML (ersL ts) ≤ szML ts ∧ (ersL ts).length = ts.length
  | [] => by simp [ersL]
  | t :: ts => by
    have h1 := ers_sz t
    have h2 := (ersL_sz ts).1
    have h3 := (ersL_sz ts).2
    simp only [ersL, szML, List.length_cons]
    omega
end

theorem erT_sz {t : Tm} (h : vldM t = true) : (erT t).sz ≤ t.sz := by
  simp only [erT, h, if_true, wiT_ers]
  exact ers_sz t

set_option linter.unusedVariables false in
set_option linter.unusedSimpArgs false in
set_option maxHeartbeats 8000000 in
set_option maxRecDepth 100000 in
theorem implSameErasure (t u : Tm) (v1 v2 : Value) (f1 f2 : List Nat) (w : World) (hz1 : t.sz ≤ 1048576) (hz2 : u.sz ≤ 1048576) (hF : Forms w) (h1 : t.At w v1 f1) (h2 : u.At w v2 f2) :
    Calls Tryd.prog 39 #[v1, v2] w fun e w' => e = .returned (.bool (vldM t && vldM u && tmEq (erT t) (erT u))) ∧ Below w.heap.size w w' := by
  obtain ⟨k, nm, num, k1, n1, a1, c1, k2, n2, a2, c2, lb, n3, a3, c3, rfl⟩ := h1.agg
  obtain ⟨k', nm', num', k1', n1', a1', c1', k2', n2', a2', c2', lb', n3', a3', c3', rfl⟩ := h2.agg
  have hb0 : Below w.heap.size w ((w.alloc (Obj.cells #[.int .i64 k, .string nm, .int .i64 num, .int .i64 k1, .slice a1 n1 c1, .int .i64 k2, .slice a2 n2 c2, .int .i64 lb, .slice a3 n3 c3] 35)).alloc (Obj.cells #[.int .i64 k', .string nm', .int .i64 num', .int .i64 k1', .slice a1' n1' c1', .int .i64 k2', .slice a2' n2' c2', .int .i64 lb', .slice a3' n3' c3'] 35)) := ((Below.refl _ _).alloc (Nat.le_refl _) _).alloc (by simp) _
  have HA := hid (h1.below hb0)
  have HU := hid (h2.below hb0)
  have HB := hid hb0
  have HE1 := hid (implEraseTerm t _ _ _ hz1 (hF.below hb0) (h1.below hb0))
  have HE2 := hid (fun (w' : World) (h : Below ((w.alloc (Obj.cells #[.int .i64 k, .string nm, .int .i64 num, .int .i64 k1, .slice a1 n1 c1, .int .i64 k2, .slice a2 n2 c2, .int .i64 lb, .slice a3 n3 c3] 35)).alloc (Obj.cells #[.int .i64 k', .string nm', .int .i64 num', .int .i64 k1', .slice a1' n1' c1', .int .i64 k2', .slice a2' n2' c2', .int .i64 lb', .slice a3' n3' c3'] 35)).heap.size ((w.alloc (Obj.cells #[.int .i64 k, .string nm, .int .i64 num, .int .i64 k1, .slice a1 n1 c1, .int .i64 k2, .slice a2 n2 c2, .int .i64 lb, .slice a3 n3 c3] 35)).alloc (Obj.cells #[.int .i64 k', .string nm', .int .i64 num', .int .i64 k1', .slice a1' n1' c1', .int .i64 k2', .slice a2' n2' c2', .int .i64 lb', .slice a3' n3' c3'] 35)) w') => implEraseTerm u _ _ w' hz2 ((hF.below hb0).below h) ((h2.below hb0).below h))
  have HSZ := hid (show vldM t = true → (erT t).sz ≤ 8388608 from fun h => by have := erT_sz h; omega)
  obtain ⟨cc, hcc⟩ : ∃ cc, cc = (vldM t && vldM u && tmEq (erT t) (erT u)) := ⟨_, rfl⟩
  rw [← hcc]
  have HCC := hid hcc
  clear hcc
  generalize erT t = et at *
  generalize erT u = eu at *
  generalize vldM t = r1 at *
  generalize vldM u = r2 at *
  obtain ⟨hxA, hxB⟩ := two_outMm (Below.refl ((w.alloc (Obj.cells #[.int .i64 k, .string nm, .int .i64 num, .int .i64 k1, .slice a1 n1 c1, .int .i64 k2, .slice a2 n2 c2, .int .i64 lb, .slice a3 n3 c3] 35)).alloc (Obj.cells #[.int .i64 k', .string nm', .int .i64 num', .int .i64 k1', .slice a1' n1' c1', .int .i64 k2', .slice a2' n2' c2', .int .i64 lb', .slice a3' n3' c3'] 35)).heap.size ((w.alloc (Obj.cells #[.int .i64 k, .string nm, .int .i64 num, .int .i64 k1, .slice a1 n1 c1, .int .i64 k2, .slice a2 n2 c2, .int .i64 lb, .slice a3 n3 c3] 35)).alloc (Obj.cells #[.int .i64 k', .string nm', .int .i64 num', .int .i64 k1', .slice a1' n1' c1', .int .i64 k2', .slice a2' n2' c2', .int .i64 lb', .slice a3' n3' c3'] 35)))
  have HXA := hid hxA
  have HXB := hid hxB
  obtain ⟨x0, x1, x2, x3, x4, x5, x6, x7, x8⟩ := cells9 hxA
  obtain ⟨y0, y1, y2, y3, y4, y5, y6, y7, y8⟩ := cells9 hxB
  clear h1 h2 hb0 hF hxA hxB
  go_enter Tryd.func39, Tryd.ntmps39
  go_wp2_with fail
  refine HE1.out.mono ?_
  rintro e w1 ⟨va, fa, rfl, hata, hfa, hb1⟩
  obtain ⟨kp, nmp, nump, k1p, n1p, a1p, c1p, k2p, n2p, a2p, c2p, lbp, n3p, a3p, c3p, rfl⟩ := hata.agg
  have hal1 : Below w1.heap.size w1 (w1.alloc (Obj.cells #[.int .i64 kp, .string nmp, .int .i64 nump, .int .i64 k1p, .slice a1p n1p c1p, .int .i64 k2p, .slice a2p n2p c2p, .int .i64 lbp, .slice a3p n3p c3p] 35)) := (Below.refl _ _).alloc (Nat.le_refl _) _
  have HB1 := hid (below_trans hb1 hal1)
  have HATA := hid (hata.below hal1)
  have HFA := hid (hfa.below hal1)
  replace x0 := cell_keep x0 hb1
  replace x1 := cell_keep x1 hb1
  replace x2 := cell_keep x2 hb1
  replace x3 := cell_keep x3 hb1
  replace x4 := cell_keep x4 hb1
  replace x5 := cell_keep x5 hb1
  replace x6 := cell_keep x6 hb1
  replace x7 := cell_keep x7 hb1
  replace x8 := cell_keep x8 hb1
  replace y0 := cell_keep y0 hb1
  replace y1 := cell_keep y1 hb1
  replace y2 := cell_keep y2 hb1
  replace y3 := cell_keep y3 hb1
  replace y4 := cell_keep y4 hb1
  replace y5 := cell_keep y5 hb1
  replace y6 := cell_keep y6 hb1
  replace y7 := cell_keep y7 hb1
  replace y8 := cell_keep y8 hb1
  have x0' := cell_keep x0 hal1
  have x1' := cell_keep x1 hal1
  have x2' := cell_keep x2 hal1
  have x3' := cell_keep x3 hal1
  have x4' := cell_keep x4 hal1
  have x5' := cell_keep x5 hal1
  have x6' := cell_keep x6 hal1
  have x7' := cell_keep x7 hal1
  have x8' := cell_keep x8 hal1
  have y0' := cell_keep y0 hal1
  have y1' := cell_keep y1 hal1
  have y2' := cell_keep y2 hal1
  have y3' := cell_keep y3 hal1
  have y4' := cell_keep y4 hal1
  have y5' := cell_keep y5 hal1
  have y6' := cell_keep y6 hal1
  have y7' := cell_keep y7 hal1
  have y8' := cell_keep y8 hal1
  clear hata hfa hb1 hal1
  go_wp2_with fail
  refine (HE2.out _ HB1.out).mono ?_
  rintro e w2 ⟨vb, fb, rfl, hatb, hfb, hb2⟩
  obtain ⟨kq, nmq, numq, k1q, n1q, a1q, c1q, k2q, n2q, a2q, c2q, lbq, n3q, a3q, c3q, rfl⟩ := hatb.agg
  have hal2 : Below w2.heap.size w2 (w2.alloc (Obj.cells #[.int .i64 kq, .string nmq, .int .i64 numq, .int .i64 k1q, .slice a1q n1q c1q, .int .i64 k2q, .slice a2q n2q c2q, .int .i64 lbq, .slice a3q n3q c3q] 35)) := (Below.refl _ _).alloc (Nat.le_refl _) _
  have hb12 := below_trans hb2 hal2
  have HBX := hid (below_trans HB.out (below_trans HB1.out hb12))
  have HBZ := hid (below_trans HB1.out hb12)
  have HATX := hid (HATA.out.below hb12)
  have HFX := hid (HFA.out.below hb12)
  have HATY := hid (hatb.below hal2)
  have HFY := hid (hfb.below hal2)
  have hA := blk (HXA.out) HBZ.out
  have hB := blk (HXB.out) HBZ.out
  have hP := blk (alloc_new w1 (Obj.cells #[.int .i64 kp, .string nmp, .int .i64 nump, .int .i64 k1p, .slice a1p n1p c1p, .int .i64 k2p, .slice a2p n2p c2p, .int .i64 lbp, .slice a3p n3p c3p] 35)) hb12
  have hQ := alloc_new w2 (Obj.cells #[.int .i64 kq, .string nmq, .int .i64 numq, .int .i64 k1q, .slice a1q n1q c1q, .int .i64 k2q, .slice a2q n2q c2q, .int .i64 lbq, .slice a3q n3q c3q] 35)
  clear x0 x1 x2 x3 x4 x5 x6 x7 x8 y0 y1 y2 y3 y4 y5 y6 y7 y8 x0' x1' x2' x3' x4' x5' x6' x7' x8' y0' y1' y2' y3' y4' y5' y6' y7' y8' hatb hfb hb2 hb12 hal2
  obtain ⟨X, hXd⟩ : ∃ X, X = (w2.alloc (Obj.cells #[.int .i64 kq, .string nmq, .int .i64 numq, .int .i64 k1q, .slice a1q n1q c1q, .int .i64 k2q, .slice a2q n2q c2q, .int .i64 lbq, .slice a3q n3q c3q] 35)) := ⟨_, rfl⟩
  have HXD := hid hXd
  rw [← hXd] at HBX HBZ HATX HFX HATY HFY hA hB hP hQ
  clear hXd
  obtain ⟨x0, x1, x2, x3, x4, x5, x6, x7, x8⟩ := cells9 hA
  obtain ⟨y0, y1, y2, y3, y4, y5, y6, y7, y8⟩ := cells9 hB
  obtain ⟨ga0, ga1, ga2, ga3, ga4, ga5, ga6, ga7, ga8⟩ := cells9 hP
  obtain ⟨gb0, gb1, gb2, gb3, gb4, gb5, gb6, gb7, gb8⟩ := cells9 hQ
  clear hA hB hP hQ HE1 HE2 HB1 HXA HXB HATA HFA
  cases r1
  · have HT := hid (show cc = false from HCC.out)
    go_wp2_with fail
    rw [← HXD.out]
    go_ret
    exact ⟨ret_b (by rw [HT.out]), HBX.out⟩
  cases r2
  · have HT := hid (show cc = false from HCC.out)
    go_wp2_with fail
    rw [← HXD.out]
    go_ret
    exact ⟨ret_b (by rw [HT.out]), HBX.out⟩
  have HTS := hid (fun (w' : World) (h : Below X.heap.size X w') => implTermSame et eu _ _ _ _ w' (HSZ.out rfl) (HATX.out.below h) (HATY.out.below h) (fun x hx => Raw.belowMm (Fresh.rawM HATX.out HFX.out x hx) h) (fun x hx => Raw.belowMm (Fresh.rawM HATY.out HFY.out x hx) h))
  have HT := hid (show cc = tmEq et eu from HCC.out)
  have hxd := HXD.out
  clear HXD
  subst hxd
  go_wp2_with fail
  refine (HTS.out _ (Below.refl _ _)).mono ?_
  rintro e w3 ⟨rfl, hy0⟩
  go_wp2_with fail
  go_ret
  exact ⟨ret_b (by rw [HT.out]), below_trans HBX.out hy0⟩

set_option linter.unusedVariables false in
set_option linter.unusedSimpArgs false in
set_option maxHeartbeats 8000000 in
set_option maxRecDepth 100000 in
theorem implTermPrecise (t u : Tm) (v1 v2 : Value) (f1 f2 : List Nat) (w : World) (hz1 : t.sz ≤ 1048576) (hz2 : u.sz ≤ 1048576) (hF : Forms w) (h1 : t.At w v1 f1) (h2 : u.At w v2 f2) :
    Calls Tryd.prog 12 #[v1, v2] w fun e w' => e = .returned (.bool (tpV t u)) ∧ Below w.heap.size w w' := by
  obtain ⟨k, nm, num, k1, n1, a1, c1, k2, n2, a2, c2, lb, n3, a3, c3, rfl⟩ := h1.agg
  obtain ⟨k', nm', num', k1', n1', a1', c1', k2', n2', a2', c2', lb', n3', a3', c3', rfl⟩ := h2.agg
  have hb0 : Below w.heap.size w ((w.alloc (Obj.cells #[.int .i64 k, .string nm, .int .i64 num, .int .i64 k1, .slice a1 n1 c1, .int .i64 k2, .slice a2 n2 c2, .int .i64 lb, .slice a3 n3 c3] 35)).alloc (Obj.cells #[.int .i64 k', .string nm', .int .i64 num', .int .i64 k1', .slice a1' n1' c1', .int .i64 k2', .slice a2' n2' c2', .int .i64 lb', .slice a3' n3' c3'] 35)) := ((Below.refl _ _).alloc (Nat.le_refl _) _).alloc (by simp) _
  have HB := hid hb0
  have HSE := hid (fun (w' : World) (h : Below ((w.alloc (Obj.cells #[.int .i64 k, .string nm, .int .i64 num, .int .i64 k1, .slice a1 n1 c1, .int .i64 k2, .slice a2 n2 c2, .int .i64 lb, .slice a3 n3 c3] 35)).alloc (Obj.cells #[.int .i64 k', .string nm', .int .i64 num', .int .i64 k1', .slice a1' n1' c1', .int .i64 k2', .slice a2' n2' c2', .int .i64 lb', .slice a3' n3' c3'] 35)).heap.size ((w.alloc (Obj.cells #[.int .i64 k, .string nm, .int .i64 num, .int .i64 k1, .slice a1 n1 c1, .int .i64 k2, .slice a2 n2 c2, .int .i64 lb, .slice a3 n3 c3] 35)).alloc (Obj.cells #[.int .i64 k', .string nm', .int .i64 num', .int .i64 k1', .slice a1' n1' c1', .int .i64 k2', .slice a2' n2' c2', .int .i64 lb', .slice a3' n3' c3'] 35)) w') => implSameErasure t u _ _ _ _ w' hz1 hz2 ((hF.below hb0).below h) ((h1.below hb0).below h) ((h2.below hb0).below h))
  have HT1 := hid (fun (w' : World) (h : Below ((w.alloc (Obj.cells #[.int .i64 k, .string nm, .int .i64 num, .int .i64 k1, .slice a1 n1 c1, .int .i64 k2, .slice a2 n2 c2, .int .i64 lb, .slice a3 n3 c3] 35)).alloc (Obj.cells #[.int .i64 k', .string nm', .int .i64 num', .int .i64 k1', .slice a1' n1' c1', .int .i64 k2', .slice a2' n2' c2', .int .i64 lb', .slice a3' n3' c3'] 35)).heap.size ((w.alloc (Obj.cells #[.int .i64 k, .string nm, .int .i64 num, .int .i64 k1, .slice a1 n1 c1, .int .i64 k2, .slice a2 n2 c2, .int .i64 lb, .slice a3 n3 c3] 35)).alloc (Obj.cells #[.int .i64 k', .string nm', .int .i64 num', .int .i64 k1', .slice a1' n1' c1', .int .i64 k2', .slice a2' n2' c2', .int .i64 lb', .slice a3' n3' c3'] 35)) w') => implTermTypes t _ _ w' hz1 ((hF.below hb0).below h) ((h1.below hb0).below h))
  have HT2 := hid (fun (w' : World) (h : Below ((w.alloc (Obj.cells #[.int .i64 k, .string nm, .int .i64 num, .int .i64 k1, .slice a1 n1 c1, .int .i64 k2, .slice a2 n2 c2, .int .i64 lb, .slice a3 n3 c3] 35)).alloc (Obj.cells #[.int .i64 k', .string nm', .int .i64 num', .int .i64 k1', .slice a1' n1' c1', .int .i64 k2', .slice a2' n2' c2', .int .i64 lb', .slice a3' n3' c3'] 35)).heap.size ((w.alloc (Obj.cells #[.int .i64 k, .string nm, .int .i64 num, .int .i64 k1, .slice a1 n1 c1, .int .i64 k2, .slice a2 n2 c2, .int .i64 lb, .slice a3 n3 c3] 35)).alloc (Obj.cells #[.int .i64 k', .string nm', .int .i64 num', .int .i64 k1', .slice a1' n1' c1', .int .i64 k2', .slice a2' n2' c2', .int .i64 lb', .slice a3' n3' c3'] 35)) w') => implTermTypes u _ _ w' hz2 ((hF.below hb0).below h) ((h2.below hb0).below h))
  have HTV := hid (show (vldM t && vldM u && tmEq (erT t) (erT u)) = true → tpV t u = prAll (tyLst t) (tyLst u) from fun h => by
    have h' := h
    simp only [Bool.and_eq_true] at h'
    rw [tpV_impl t u h'.1.1 h'.1.2, h'.2, Bool.true_and])
  have HTN := hid (show (vldM t && vldM u && tmEq (erT t) (erT u)) = false → tpV t u = false from fun h => by
    cases hv : (vldM t && vldM u) with
    | false => rw [tpV, hv, Bool.false_and]
    | true =>
      have hv' := hv
      simp only [Bool.and_eq_true] at hv'
      rw [hv, Bool.true_and] at h
      rw [tpV_impl t u hv'.1 hv'.2, h, Bool.false_and])
  generalize (vldM t && vldM u && tmEq (erT t) (erT u)) = cc at *
  generalize tyLst t = L1 at *
  generalize tyLst u = L2 at *
  obtain ⟨hxA, hxB⟩ := two_outMm (Below.refl ((w.alloc (Obj.cells #[.int .i64 k, .string nm, .int .i64 num, .int .i64 k1, .slice a1 n1 c1, .int .i64 k2, .slice a2 n2 c2, .int .i64 lb, .slice a3 n3 c3] 35)).alloc (Obj.cells #[.int .i64 k', .string nm', .int .i64 num', .int .i64 k1', .slice a1' n1' c1', .int .i64 k2', .slice a2' n2' c2', .int .i64 lb', .slice a3' n3' c3'] 35)).heap.size ((w.alloc (Obj.cells #[.int .i64 k, .string nm, .int .i64 num, .int .i64 k1, .slice a1 n1 c1, .int .i64 k2, .slice a2 n2 c2, .int .i64 lb, .slice a3 n3 c3] 35)).alloc (Obj.cells #[.int .i64 k', .string nm', .int .i64 num', .int .i64 k1', .slice a1' n1' c1', .int .i64 k2', .slice a2' n2' c2', .int .i64 lb', .slice a3' n3' c3'] 35)))
  obtain ⟨x0, x1, x2, x3, x4, x5, x6, x7, x8⟩ := cells9 hxA
  obtain ⟨y0, y1, y2, y3, y4, y5, y6, y7, y8⟩ := cells9 hxB
  clear h1 h2 hb0 hF hxA hxB
  go_enter Tryd.func12, Tryd.ntmps12
  go_wp2_with fail
  generalize ((w.alloc (Obj.cells #[.int .i64 k, .string nm, .int .i64 num, .int .i64 k1, .slice a1 n1 c1, .int .i64 k2, .slice a2 n2 c2, .int .i64 lb, .slice a3 n3 c3] 35)).alloc (Obj.cells #[.int .i64 k', .string nm', .int .i64 num', .int .i64 k1', .slice a1' n1' c1', .int .i64 k2', .slice a2' n2' c2', .int .i64 lb', .slice a3' n3' c3'] 35)) = X at *
  cases cc
  · have HT := hid (show tpV t u = false from HTN.out rfl)
    refine wp_region_held_drew (S := (fun w' => Below X.heap.size X w' ∧ w'.cell? ⟨w.heap.size, 0, none⟩ = some (.int .i64 k) ∧ w'.cell? ⟨w.heap.size, 1, none⟩ = some (.string nm) ∧ w'.cell? ⟨w.heap.size, 2, none⟩ = some (.int .i64 num) ∧ w'.cell? ⟨w.heap.size, 3, none⟩ = some (.int .i64 k1) ∧ w'.cell? ⟨w.heap.size, 4, none⟩ = some (.slice a1 n1 c1) ∧ w'.cell? ⟨w.heap.size, 5, none⟩ = some (.int .i64 k2) ∧ w'.cell? ⟨w.heap.size, 6, none⟩ = some (.slice a2 n2 c2) ∧ w'.cell? ⟨w.heap.size, 7, none⟩ = some (.int .i64 lb) ∧ w'.cell? ⟨w.heap.size, 8, none⟩ = some (.slice a3 n3 c3) ∧ w'.cell? ⟨w.heap.size + 1, 0, none⟩ = some (.int .i64 k') ∧ w'.cell? ⟨w.heap.size + 1, 1, none⟩ = some (.string nm') ∧ w'.cell? ⟨w.heap.size + 1, 2, none⟩ = some (.int .i64 num') ∧ w'.cell? ⟨w.heap.size + 1, 3, none⟩ = some (.int .i64 k1') ∧ w'.cell? ⟨w.heap.size + 1, 4, none⟩ = some (.slice a1' n1' c1') ∧ w'.cell? ⟨w.heap.size + 1, 5, none⟩ = some (.int .i64 k2') ∧ w'.cell? ⟨w.heap.size + 1, 6, none⟩ = some (.slice a2' n2' c2') ∧ w'.cell? ⟨w.heap.size + 1, 7, none⟩ = some (.int .i64 lb') ∧ w'.cell? ⟨w.heap.size + 1, 8, none⟩ = some (.slice a3' n3' c3'))) (by kernel_rfl) ?_ (fun hS0 => ?_)
    · (refine (fun hB => ⟨hB, cell_keep x0 hB, cell_keep x1 hB, cell_keep x2 hB, cell_keep x3 hB, cell_keep x4 hB, cell_keep x5 hB, cell_keep x6 hB, cell_keep x7 hB, cell_keep x8 hB, cell_keep y0 hB, cell_keep y1 hB, cell_keep y2 hB, cell_keep y3 hB, cell_keep y4 hB, cell_keep y5 hB, cell_keep y6 hB, cell_keep y7 hB, cell_keep y8 hB⟩ : Below X.heap.size X _ → _) ?_; exact below_drew _)
    refine regTake (i := 0) (v := ?vf0) rfl (by kernel_rfl) (by kernel_rfl) (by kernel_rfl) (fun _ _ _ h => h) (Or.inl ⟨by rfl, ?hyf0⟩) (by assumption) ?_
    case hyf0 => (intro w hSw; (try dsimp only at hSw); go_simp; (try with_reducible rfl))
    try simp only [Act.put, List.setIfInBounds_toArray, List.set_cons_zero, List.set_cons_succ]
    refine regTake (i := 1) (v := ?vf1) rfl (by kernel_rfl) (by kernel_rfl) (by kernel_rfl) (fun _ _ _ h => h) (Or.inl ⟨by rfl, ?hyf1⟩) (by assumption) ?_
    case hyf1 => (intro w hSw; (try dsimp only at hSw); go_simp; (try with_reducible rfl))
    try simp only [Act.put, List.setIfInBounds_toArray, List.set_cons_zero, List.set_cons_succ]
    refine wpAnyH_ready (rs := [2]) (by kernel_rfl) (by simp) ?_
    refine regCons rfl (fun K hK => ?_)
    go_simp
    refine (HSE.out _ (below_drew X)).mono ?_
    rintro e w3 ⟨rfl, hy0⟩
    have hk0 := below_trans (below_drew X) hy0
    refine hK.out _ _ ?_ (fun hS1 => ?_)
    · (refine (fun hB => ⟨hB, cell_keep x0 hB, cell_keep x1 hB, cell_keep x2 hB, cell_keep x3 hB, cell_keep x4 hB, cell_keep x5 hB, cell_keep x6 hB, cell_keep x7 hB, cell_keep x8 hB, cell_keep y0 hB, cell_keep y1 hB, cell_keep y2 hB, cell_keep y3 hB, cell_keep y4 hB, cell_keep y5 hB, cell_keep y6 hB, cell_keep y7 hB, cell_keep y8 hB⟩ : Below X.heap.size X _ → _) ?_; exact hk0)
    clear hK K hS0
    try simp only [Act.put, List.setIfInBounds_toArray, List.set_cons_zero, List.set_cons_succ]
    refine regTake (i := 3) (v := ?vf3) rfl (by kernel_rfl) (by kernel_rfl) (by kernel_rfl) (fun _ _ _ h => h) (Or.inl ⟨by rfl, ?hyf3⟩) (by assumption) ?_
    case hyf3 => (intro w hSw; (try dsimp only at hSw); go_simp; (try with_reducible rfl))
    try simp only [Act.put, List.setIfInBounds_toArray, List.set_cons_zero, List.set_cons_succ]
    refine regTake (i := 4) (v := undef) rfl (by kernel_rfl) (by kernel_rfl) (by kernel_rfl) (fun _ _ _ h => h) (Or.inr ⟨by rfl, rfl⟩) (by assumption) ?_
    try simp only [Act.put, List.setIfInBounds_toArray, List.set_cons_zero, List.set_cons_succ]
    refine regTake (i := 5) (v := undef) rfl (by kernel_rfl) (by kernel_rfl) (by kernel_rfl) (fun _ _ _ h => h) (Or.inr ⟨by rfl, rfl⟩) (by assumption) ?_
    try simp only [Act.put, List.setIfInBounds_toArray, List.set_cons_zero, List.set_cons_succ]
    refine regTake (i := 6) (v := undef) rfl (by kernel_rfl) (by kernel_rfl) (by kernel_rfl) (fun _ _ _ h => h) (Or.inr ⟨by rfl, rfl⟩) (by assumption) ?_
    try simp only [Act.put, List.setIfInBounds_toArray, List.set_cons_zero, List.set_cons_succ]
    refine regTake (i := 7) (v := undef) rfl (by kernel_rfl) (by kernel_rfl) (by kernel_rfl) (fun _ _ _ h => h) (Or.inr ⟨by rfl, rfl⟩) (by assumption) ?_
    try simp only [Act.put, List.setIfInBounds_toArray, List.set_cons_zero, List.set_cons_succ]
    refine regTake (i := 8) (v := undef) rfl (by kernel_rfl) (by kernel_rfl) (by kernel_rfl) (fun _ _ _ h => h) (Or.inr ⟨by rfl, rfl⟩) (by assumption) ?_
    try simp only [Act.put, List.setIfInBounds_toArray, List.set_cons_zero, List.set_cons_succ]
    refine regTake (i := 9) (v := .bool false) rfl (by kernel_rfl) (by kernel_rfl) (by kernel_rfl) (fun _ _ _ h => h) (Or.inl ⟨by rfl, ?hyf9⟩) (by assumption) ?_
    case hyf9 => (intro w hSw; (try dsimp only at hSw); go_simp; (try with_reducible rfl))
    try simp only [Act.put, List.setIfInBounds_toArray, List.set_cons_zero, List.set_cons_succ]
    refine regTake (i := 10) (v := ?vf10) rfl (by kernel_rfl) (by kernel_rfl) (by kernel_rfl) (fun _ _ _ h => h) (Or.inl ⟨by rfl, ?hyf10⟩) (by assumption) ?_
    case hyf10 => (intro w hSw; (try dsimp only at hSw); go_simp; (try with_reducible rfl))
    try simp only [Act.put, List.setIfInBounds_toArray, List.set_cons_zero, List.set_cons_succ]
    refine wpAnyH_done (by kernel_rfl) ?_ _
    go_wp2_with fail
    go_ret
    exact ⟨ret_b (by rw [HT.out]), below_trans HB.out hk0⟩
  have HT := hid (show tpV t u = prAll L1 L2 from HTV.out rfl)
  refine wp_region_held_drew (S := (fun w' => Below X.heap.size X w' ∧ w'.cell? ⟨w.heap.size, 0, none⟩ = some (.int .i64 k) ∧ w'.cell? ⟨w.heap.size, 1, none⟩ = some (.string nm) ∧ w'.cell? ⟨w.heap.size, 2, none⟩ = some (.int .i64 num) ∧ w'.cell? ⟨w.heap.size, 3, none⟩ = some (.int .i64 k1) ∧ w'.cell? ⟨w.heap.size, 4, none⟩ = some (.slice a1 n1 c1) ∧ w'.cell? ⟨w.heap.size, 5, none⟩ = some (.int .i64 k2) ∧ w'.cell? ⟨w.heap.size, 6, none⟩ = some (.slice a2 n2 c2) ∧ w'.cell? ⟨w.heap.size, 7, none⟩ = some (.int .i64 lb) ∧ w'.cell? ⟨w.heap.size, 8, none⟩ = some (.slice a3 n3 c3) ∧ w'.cell? ⟨w.heap.size + 1, 0, none⟩ = some (.int .i64 k') ∧ w'.cell? ⟨w.heap.size + 1, 1, none⟩ = some (.string nm') ∧ w'.cell? ⟨w.heap.size + 1, 2, none⟩ = some (.int .i64 num') ∧ w'.cell? ⟨w.heap.size + 1, 3, none⟩ = some (.int .i64 k1') ∧ w'.cell? ⟨w.heap.size + 1, 4, none⟩ = some (.slice a1' n1' c1') ∧ w'.cell? ⟨w.heap.size + 1, 5, none⟩ = some (.int .i64 k2') ∧ w'.cell? ⟨w.heap.size + 1, 6, none⟩ = some (.slice a2' n2' c2') ∧ w'.cell? ⟨w.heap.size + 1, 7, none⟩ = some (.int .i64 lb') ∧ w'.cell? ⟨w.heap.size + 1, 8, none⟩ = some (.slice a3' n3' c3'))) (by kernel_rfl) ?_ (fun hS0 => ?_)
  · (refine (fun hB => ⟨hB, cell_keep x0 hB, cell_keep x1 hB, cell_keep x2 hB, cell_keep x3 hB, cell_keep x4 hB, cell_keep x5 hB, cell_keep x6 hB, cell_keep x7 hB, cell_keep x8 hB, cell_keep y0 hB, cell_keep y1 hB, cell_keep y2 hB, cell_keep y3 hB, cell_keep y4 hB, cell_keep y5 hB, cell_keep y6 hB, cell_keep y7 hB, cell_keep y8 hB⟩ : Below X.heap.size X _ → _) ?_; exact below_drew _)
  refine regTake (i := 0) (v := ?vi0) rfl (by kernel_rfl) (by kernel_rfl) (by kernel_rfl) (fun _ _ _ h => h) (Or.inl ⟨by rfl, ?hyi0⟩) (by assumption) ?_
  case hyi0 => (intro w hSw; (try dsimp only at hSw); go_simp; (try with_reducible rfl))
  try simp only [Act.put, List.setIfInBounds_toArray, List.set_cons_zero, List.set_cons_succ]
  refine regTake (i := 1) (v := ?vi1) rfl (by kernel_rfl) (by kernel_rfl) (by kernel_rfl) (fun _ _ _ h => h) (Or.inl ⟨by rfl, ?hyi1⟩) (by assumption) ?_
  case hyi1 => (intro w hSw; (try dsimp only at hSw); go_simp; (try with_reducible rfl))
  try simp only [Act.put, List.setIfInBounds_toArray, List.set_cons_zero, List.set_cons_succ]
  refine wpAnyH_ready (rs := [2]) (by kernel_rfl) (by simp) ?_
  refine regCons rfl (fun K hK => ?_)
  go_simp
  refine (HSE.out _ (below_drew X)).mono ?_
  rintro e w3 ⟨rfl, hy0⟩
  have hk0 := below_trans (below_drew X) hy0
  refine hK.out _ _ ?_ (fun hS1 => ?_)
  · (refine (fun hB => ⟨hB, cell_keep x0 hB, cell_keep x1 hB, cell_keep x2 hB, cell_keep x3 hB, cell_keep x4 hB, cell_keep x5 hB, cell_keep x6 hB, cell_keep x7 hB, cell_keep x8 hB, cell_keep y0 hB, cell_keep y1 hB, cell_keep y2 hB, cell_keep y3 hB, cell_keep y4 hB, cell_keep y5 hB, cell_keep y6 hB, cell_keep y7 hB, cell_keep y8 hB⟩ : Below X.heap.size X _ → _) ?_; exact hk0)
  clear hK K hS0
  try simp only [Act.put, List.setIfInBounds_toArray, List.set_cons_zero, List.set_cons_succ]
  refine regTake (i := 3) (v := ?vi3) rfl (by kernel_rfl) (by kernel_rfl) (by kernel_rfl) (fun _ _ _ h => h) (Or.inl ⟨by rfl, ?hyi3⟩) (by assumption) ?_
  case hyi3 => (intro w hSw; (try dsimp only at hSw); go_simp; (try with_reducible rfl))
  try simp only [Act.put, List.setIfInBounds_toArray, List.set_cons_zero, List.set_cons_succ]
  refine regTake (i := 4) (v := ?vi4) rfl (by kernel_rfl) (by kernel_rfl) (by kernel_rfl) (fun _ _ _ h => h) (Or.inl ⟨by rfl, ?hyi4⟩) (by assumption) ?_
  case hyi4 => (intro w hSw; (try dsimp only at hSw); go_simp; (try with_reducible rfl))
  try simp only [Act.put, List.setIfInBounds_toArray, List.set_cons_zero, List.set_cons_succ]
  refine regTake (i := 6) (v := ?vi6) rfl (by kernel_rfl) (by kernel_rfl) (by kernel_rfl) (fun _ _ _ h => h) (Or.inl ⟨by rfl, ?hyi6⟩) (by assumption) ?_
  case hyi6 => (intro w hSw; (try dsimp only at hSw); go_simp; (try with_reducible rfl))
  try simp only [Act.put, List.setIfInBounds_toArray, List.set_cons_zero, List.set_cons_succ]
  refine wpAnyH_ready (rs := [5]) (by kernel_rfl) (by simp) ?_
  refine regCons rfl (fun K hK => ?_)
  go_simp
  refine (HT1.out _ hk0).mono ?_
  rintro e w4 ⟨sa, ga, rfl, hsa, hga, hy1⟩
  have hk1 := below_trans hk0 hy1
  refine hK.out _ _ ?_ (fun hS2 => ?_)
  · (refine (fun hB => ⟨hB, cell_keep x0 hB, cell_keep x1 hB, cell_keep x2 hB, cell_keep x3 hB, cell_keep x4 hB, cell_keep x5 hB, cell_keep x6 hB, cell_keep x7 hB, cell_keep x8 hB, cell_keep y0 hB, cell_keep y1 hB, cell_keep y2 hB, cell_keep y3 hB, cell_keep y4 hB, cell_keep y5 hB, cell_keep y6 hB, cell_keep y7 hB, cell_keep y8 hB⟩ : Below X.heap.size X _ → _) ?_; exact hk1)
  clear hK K hS1
  try simp only [Act.put, List.setIfInBounds_toArray, List.set_cons_zero, List.set_cons_succ]
  refine wpAnyH_ready (rs := [7]) (by kernel_rfl) (by simp) ?_
  refine regCons rfl (fun K hK => ?_)
  go_simp
  refine (HT2.out _ hk1).mono ?_
  rintro e w5 ⟨sb, gb, rfl, hsb, hgb, hy2⟩
  have hk2 := below_trans hk1 hy2
  refine hK.out _ _ ?_ (fun hS3 => ?_)
  · (refine (fun hB => ⟨hB, cell_keep x0 hB, cell_keep x1 hB, cell_keep x2 hB, cell_keep x3 hB, cell_keep x4 hB, cell_keep x5 hB, cell_keep x6 hB, cell_keep x7 hB, cell_keep x8 hB, cell_keep y0 hB, cell_keep y1 hB, cell_keep y2 hB, cell_keep y3 hB, cell_keep y4 hB, cell_keep y5 hB, cell_keep y6 hB, cell_keep y7 hB, cell_keep y8 hB⟩ : Below X.heap.size X _ → _) ?_; exact hk2)
  clear hK K hS2
  try simp only [Act.put, List.setIfInBounds_toArray, List.set_cons_zero, List.set_cons_succ]
  refine wpAnyH_ready (rs := [8]) (by kernel_rfl) (by simp) ?_
  refine regCons rfl (fun K hK => ?_)
  go_simp
  refine (eqfPrec _ _ _ _ _ _ _ (hsa.below hy2) hsb).mono ?_
  rintro e w6 ⟨rfl, hy3⟩
  have hk3 := below_trans hk2 hy3
  refine hK.out _ _ ?_ (fun hS4 => ?_)
  · (refine (fun hB => ⟨hB, cell_keep x0 hB, cell_keep x1 hB, cell_keep x2 hB, cell_keep x3 hB, cell_keep x4 hB, cell_keep x5 hB, cell_keep x6 hB, cell_keep x7 hB, cell_keep x8 hB, cell_keep y0 hB, cell_keep y1 hB, cell_keep y2 hB, cell_keep y3 hB, cell_keep y4 hB, cell_keep y5 hB, cell_keep y6 hB, cell_keep y7 hB, cell_keep y8 hB⟩ : Below X.heap.size X _ → _) ?_; exact hk3)
  clear hK K hS3
  try simp only [Act.put, List.setIfInBounds_toArray, List.set_cons_zero, List.set_cons_succ]
  refine regTake (i := 9) (v := ?vi9) rfl (by kernel_rfl) (by kernel_rfl) (by kernel_rfl) (fun _ _ _ h => h) (Or.inl ⟨by rfl, ?hyi9⟩) (by assumption) ?_
  case hyi9 => (intro w hSw; (try dsimp only at hSw); go_simp; (try with_reducible rfl))
  try simp only [Act.put, List.setIfInBounds_toArray, List.set_cons_zero, List.set_cons_succ]
  refine regTake (i := 10) (v := ?vi10) rfl (by kernel_rfl) (by kernel_rfl) (by kernel_rfl) (fun _ _ _ h => h) (Or.inl ⟨by rfl, ?hyi10⟩) (by assumption) ?_
  case hyi10 => (intro w hSw; (try dsimp only at hSw); go_simp; (try with_reducible rfl))
  try simp only [Act.put, List.setIfInBounds_toArray, List.set_cons_zero, List.set_cons_succ]
  refine wpAnyH_done (by kernel_rfl) ?_ _
  go_wp2_with fail
  go_ret
  exact ⟨ret_b (by rw [HT.out]), below_trans HB.out hk3⟩
end Go.Proofs.YtppjeeklckdlgaaDoor
