/- The specification's l3Precise and TermPrecise. -/
import Derived.Test.YtppjeeklckdlgaaDoorPm0
import Derived.Test.YtppjeeklckdlgaaDoorConP
import Derived.StillTailTactics
namespace Go.Proofs.YtppjeeklckdlgaaDoor
open Go.RowKit

def TmpC (t : Tm) : Prop := ∀ (u : Tm) (d1 d2 : Nat) (v1 v2 : Value) (f1 f2 : List Nat) (w : World), shpM d1 t = true → shpM d2 u = true → t.At w v1 f1 → u.At w v2 f2 →
  Calls Tryd.prog 36 #[v1, v2] w fun e w' => e = .returned (.bool (tmPr t u)) ∧ Below w.heap.size w w'

set_option linter.unusedVariables false in
set_option linter.unusedSimpArgs false in
set_option maxHeartbeats 2000000 in
set_option maxRecDepth 100000 in
theorem l3Precise_of (k : Int) (nm : ByteArray) (num : Int) (ty fr : Ty) (lb : Int) (ts : List Tm) (ih : ∀ t ∈ ts, TmpC t) : TmpC (.mk k nm num ty fr lb ts) := by
  intro u d1 d2 v1 v2 f1 f2 w hs1 hs2 h1 h2
  have HIH := hid ih
  clear ih
  obtain ⟨k', nm', num', ty', fr', lb', ts', rfl⟩ := u.shape
  obtain ⟨d1', -, hts, hkid, -, -, -, hv, -⟩ := shpM_parts hs1
  obtain ⟨d2', -, hus, hkid', -, -, -, hv', -⟩ := shpM_parts hs2
  have HTS := hid hts
  have HUS := hid hus
  have HVV := hid (And.intro hv hv')
  have HKD := hid (And.intro hkid hkid')
  clear hts hus hkid hkid' hv hv' hs1 hs2
  obtain ⟨k1, n1, a1, c1, k2, n2, a2, c2, a3, c3, g1, g2, g3, rfl, hnm, ht1, ht2, rfl, hs⟩ := h1.parts
  obtain ⟨k1', n1', a1', c1', k2', n2', a2', c2', a3', c3', g1', g2', g3', rfl, hnm', hu1, hu2, rfl, hs'⟩ := h2.parts
  obtain ⟨a, cap, hss, hc, hm, hget⟩ := hs.open
  cases hss
  obtain ⟨a', cap', hss', hc', hm', hget'⟩ := hs'.open
  cases hss'
  have HG := hid hget
  have HG2 := hid hget'
  have hal : Below w.heap.size w ((w.alloc (Obj.cells #[.int .i64 k, .string nm, .int .i64 num, .int .i64 k1, .slice a1 n1 c1, .int .i64 k2, .slice a2 n2 c2, .int .i64 lb, .slice a3 ts.length c3] 35)).alloc (Obj.cells #[.int .i64 k', .string nm', .int .i64 num', .int .i64 k1', .slice a1' n1' c1', .int .i64 k2', .slice a2' n2' c2', .int .i64 lb', .slice a3' ts'.length c3'] 35)) := ((Below.refl _ _).alloc (Nat.le_refl _) _).alloc (by simp) _
  have HAL := hid hal
  have H1 := hid (And.intro (ht1.below hal) (And.intro (hu1.below hal) (And.intro (ht2.below hal) (hu2.below hal))))
  have HE := hid (show tmPr (.mk k nm num ty fr lb ts) (.mk k' nm' num' ty' fr' lb' ts') = (decide (k = k') && decide (nm = nm') && decide (num = num') && decide (ts.length = ts'.length) && (!(decide (k = 5 ∨ k = 13)) || prec ty ty') && tmPrL ts ts') by rw [tmPr])
  obtain ⟨hbA, hbB⟩ := two_outMm (Below.refl (((w.alloc (Obj.cells #[.int .i64 k, .string nm, .int .i64 num, .int .i64 k1, .slice a1 n1 c1, .int .i64 k2, .slice a2 n2 c2, .int .i64 lb, .slice a3 ts.length c3] 35)).alloc (Obj.cells #[.int .i64 k', .string nm', .int .i64 num', .int .i64 k1', .slice a1' n1' c1', .int .i64 k2', .slice a2' n2' c2', .int .i64 lb', .slice a3' ts'.length c3'] 35))).heap.size ((w.alloc (Obj.cells #[.int .i64 k, .string nm, .int .i64 num, .int .i64 k1, .slice a1 n1 c1, .int .i64 k2, .slice a2 n2 c2, .int .i64 lb, .slice a3 ts.length c3] 35)).alloc (Obj.cells #[.int .i64 k', .string nm', .int .i64 num', .int .i64 k1', .slice a1' n1' c1', .int .i64 k2', .slice a2' n2' c2', .int .i64 lb', .slice a3' ts'.length c3'] 35)))
  obtain ⟨x0, x1, x2, x3, x4, x5, x6, x7, x8⟩ := cells9 hbA
  obtain ⟨y0, y1, y2, y3, y4, y5, y6, y7, y8⟩ := cells9 hbB
  have HAB := hid (And.intro hbA hbB)
  clear hget hget' hs hs' h1 h2 ht1 ht2 hu1 hu2 hal hbA hbB
  by_cases hq : k = k'
  case neg =>
    have HT := hid (show tmPr (.mk k nm num ty fr lb ts) (.mk k' nm' num' ty' fr' lb' ts') = false by rw [HE.out]; simp [hq])
    have q1 : (k == k') = false := by simpa using hq
    have q2 : (k != k') = true := by simpa using hq
    clear hq
    go_enter Tryd.func36, Tryd.ntmps36
    go_wp2_with fail
    go_ret
    exact ⟨ret_b HT.out.symm, HAL.out⟩
  subst hq
  by_cases hq : nm = nm'
  case neg =>
    have HT := hid (show tmPr (.mk k nm num ty fr lb ts) (.mk k nm' num' ty' fr' lb' ts') = false by rw [HE.out]; simp [hq])
    have q1 : (nm.toList == nm'.toList) = false := nmList_ne hq
    have q2 : (nm.toList != nm'.toList) = true := by simp [bne, q1]
    clear hq
    go_enter Tryd.func36, Tryd.ntmps36
    go_wp2_with fail
    go_ret
    exact ⟨ret_b HT.out.symm, HAL.out⟩
  subst hq
  by_cases hq : num = num'
  case neg =>
    have HT := hid (show tmPr (.mk k nm num ty fr lb ts) (.mk k nm num' ty' fr' lb' ts') = false by rw [HE.out]; simp [hq])
    have q1 : (num == num') = false := by simpa using hq
    have q2 : (num != num') = true := by simpa using hq
    clear hq
    go_enter Tryd.func36, Tryd.ntmps36
    go_wp2_with fail
    go_ret
    exact ⟨ret_b HT.out.symm, HAL.out⟩
  subst hq
  by_cases hq : ts.length = ts'.length
  case neg =>
    have HT := hid (show tmPr (.mk k nm num ty fr lb ts) (.mk k nm num ty' fr' lb' ts') = false by rw [HE.out]; simp [hq])
    have q1 : ((ts.length : Int) != (ts'.length : Int)) = true := by simp; omega
    have q2 : ((ts.length : Int) == (ts'.length : Int)) = false := by simp; omega
    clear hq
    go_enter Tryd.func36, Tryd.ntmps36
    go_wp2_with fail
    go_ret
    exact ⟨ret_b HT.out.symm, HAL.out⟩
  have q1 : ((ts.length : Int) != (ts'.length : Int)) = false := by simp; omega
  have q2 : ((ts.length : Int) == (ts'.length : Int)) = true := by simp; omega
  have HL := hid hq
  clear hq
  by_cases hk : k = 5 ∨ k = 13
  · rcases hk with rfl | rfl
    · have HT := hid (show tmPr (.mk 5 nm num ty fr lb ts) (.mk 5 nm num ty' fr' lb' ts') = (prec ty ty' && tmPrL ts ts') by rw [HE.out]; simp [HL.out])
      have HC1 := hid (l1Precise_any ty ty' _ _ _ _ _ H1.out.1 H1.out.2.1 (wf_of_vld (HVV.out.1 (by omega))) (wf_of_vld (HVV.out.2 (by omega))))
      clear HE HVV
      obtain ⟨X, hXd⟩ : ∃ X, X = ((w.alloc (Obj.cells #[.int .i64 5, .string nm, .int .i64 num, .int .i64 k1, .slice a1 n1 c1, .int .i64 k2, .slice a2 n2 c2, .int .i64 lb, .slice a3 ts.length c3] 35)).alloc (Obj.cells #[.int .i64 5, .string nm, .int .i64 num, .int .i64 k1', .slice a1' n1' c1', .int .i64 k2', .slice a2' n2' c2', .int .i64 lb', .slice a3' ts'.length c3'] 35)) := ⟨_, rfl⟩
      have HXD := hid hXd
      rw [← hXd] at HC1 H1 HAL HAB
      clear hXd
      generalize prec ty ty' = e1 at *
      go_enter Tryd.func36, Tryd.ntmps36
      go_wp2_with fail
      rw [← HXD.out]
      refine HC1.out.mono ?_
      rintro e w1 ⟨rfl, hb1⟩
      rw [← HXD.out] at x0 x1 x2 x3 x4 x5 x6 x7 x8 y0 y1 y2 y3 y4 y5 y6 y7 y8
      replace x0 := cell_keep x0 hb1
      replace x1 := cell_keep x1 hb1
      replace x2 := cell_keep x2 hb1
      replace x3 := cell_keep x3 hb1
      replace x4 := cell_keep x4 hb1
      replace x5 := cell_keep x5 hb1
      replace x6 := cell_keep x6 hb1
      replace x7 := cell_keep x7 hb1
      replace x8 := cell_keep x8 hb1
      replace y0 := cell_keep y0 hb1
      replace y1 := cell_keep y1 hb1
      replace y2 := cell_keep y2 hb1
      replace y3 := cell_keep y3 hb1
      replace y4 := cell_keep y4 hb1
      replace y5 := cell_keep y5 hb1
      replace y6 := cell_keep y6 hb1
      replace y7 := cell_keep y7 hb1
      replace y8 := cell_keep y8 hb1
      cases e1
      · go_wp2_with fail
        go_ret
        exact ⟨ret_b (by rw [HT.out]; rfl), below_trans HAL.out hb1⟩
      have HB2 := hid hb1
      have HTT := hid (show tmPr (.mk 5 nm num ty fr lb ts) (.mk 5 nm num ty' fr' lb' ts') = tmPrL ts ts' by rw [HT.out]; rfl)
      clear hb1 x0 x1 x2 x3 x4 x5 x6 x7 x8 y0 y1 y2 y3 y4 y5 y6 y7 y8 HT
      go_wp2_with fail
      go_loopw [5] (fun i wr => ∃ j : Nat, j ≤ ts.length ∧ i = .int .i64 j ∧ tmPrL (ts.drop j) (ts'.drop j) = tmPrL ts ts' ∧ Below X.heap.size X wr) (fun i _ => ts.length - (intOf i).toNat)
      case atStart => exact ⟨0, Nat.zero_le _, rfl, rfl, HB2.out⟩
      case round =>
        obtain ⟨j, hj, rfl, hdr, hb⟩ := hrel
        have HD := hid hdr
        clear hdr
        have hbA := blk HAB.out.1 hb
        have hbB := blk HAB.out.2 hb
        obtain ⟨x0, x1, x2, x3, x4, x5, x6, x7, x8⟩ := cells9 hbA
        obtain ⟨y0, y1, y2, y3, y4, y5, y6, y7, y8⟩ := cells9 hbB
        clear hbA hbB
        have hbw : Below w.heap.size w wr := below_trans HAL.out hb
        by_cases hlk : j < ts.length
        · have hlk2 : j < ts'.length := by have := HL.out; omega
          obtain ⟨b, o, p0, p1, p2, p3, p4, p5, p6, p7, p8, p9, p10, p11, p12, p13, p14, fa, hab, hblt, ca0, ca1, ca2, ca3, ca4, ca5, ca6, ca7, ca8, hat, -⟩ := HG.out j hlk
          obtain ⟨b2, o2, r0, r1, r2, r3, r4, r5, r6, r7, r8, r9, r10, r11, r12, r13, r14, fb, hab2, hblt2, cb0, cb1, cb2, cb3, cb4, cb5, cb6, cb7, cb8, hat2, -⟩ := HG2.out j hlk2
          subst hab hab2
          replace ca0 := cell_keep ca0 hbw
          replace ca1 := cell_keep ca1 hbw
          replace ca2 := cell_keep ca2 hbw
          replace ca3 := cell_keep ca3 hbw
          replace ca4 := cell_keep ca4 hbw
          replace ca5 := cell_keep ca5 hbw
          replace ca6 := cell_keep ca6 hbw
          replace ca7 := cell_keep ca7 hbw
          replace ca8 := cell_keep ca8 hbw
          replace cb0 := cell_keep cb0 hbw
          replace cb1 := cell_keep cb1 hbw
          replace cb2 := cell_keep cb2 hbw
          replace cb3 := cell_keep cb3 hbw
          replace cb4 := cell_keep cb4 hbw
          replace cb5 := cell_keep cb5 hbw
          replace cb6 := cell_keep cb6 hbw
          replace cb7 := cell_keep cb7 hbw
          replace cb8 := cell_keep cb8 hbw
          have HST := hid (tmPrL_step hlk hlk2)
          have HIJ := hid (fun (w' : World) (h : Below w.heap.size w w') => HIH.out _ (List.getElem_mem hlk) _ _ _ _ _ _ _ w' (HTS.out _ (List.getElem_mem hlk)) (HUS.out _ (List.getElem_mem hlk2)) (hat.below h) (hat2.below h))
          clear hat hat2 hblt hblt2
          go_wp2_with fail
          go_still_tail 10, (by kernel_rfl)
          go_wp2_with fail
          refine (HIJ.out _ (by exact hbw.drew)).mono ?_
          rintro e w3 ⟨rfl, hb3⟩
          have hbb : Below X.heap.size X w3 := hb.trans ((below_trans (below_drew wr) hb3).mono hb.size)
          clear hb hb3 hbw ca0 ca1 ca2 ca3 ca4 ca5 ca6 ca7 ca8 cb0 cb1 cb2 cb3 cb4 cb5 cb6 cb7 cb8
          generalize tmPr ts[j] ts'[j] = r at *
          cases r
          · go_wp2_with fail
            go_ret
            exact ⟨ret_b (by rw [HTT.out, ← HD.out, HST.out, Bool.false_and]), below_trans HAL.out hbb⟩
          · go_wp2_with fail
            go_roundw
            case rel => exact ⟨j + 1, by omega, by go_num, by rw [← HD.out, HST.out, Bool.true_and], hbb⟩
            case measure => simp [intOf]; omega
        · go_wp2_with fail
          go_ret
          exact ⟨ret_b (by rw [HTT.out, ← HD.out, List.drop_of_length_le (by omega), List.drop_of_length_le (by have := HL.out; omega)]; simp only [tmPrL]), hbw⟩
    · have HT := hid (show tmPr (.mk 13 nm num ty fr lb ts) (.mk 13 nm num ty' fr' lb' ts') = (prec ty ty' && tmPrL ts ts') by rw [HE.out]; simp [HL.out])
      have HC1 := hid (l1Precise_any ty ty' _ _ _ _ _ H1.out.1 H1.out.2.1 (wf_of_vld (HVV.out.1 (by omega))) (wf_of_vld (HVV.out.2 (by omega))))
      clear HE HVV
      obtain ⟨X, hXd⟩ : ∃ X, X = ((w.alloc (Obj.cells #[.int .i64 13, .string nm, .int .i64 num, .int .i64 k1, .slice a1 n1 c1, .int .i64 k2, .slice a2 n2 c2, .int .i64 lb, .slice a3 ts.length c3] 35)).alloc (Obj.cells #[.int .i64 13, .string nm, .int .i64 num, .int .i64 k1', .slice a1' n1' c1', .int .i64 k2', .slice a2' n2' c2', .int .i64 lb', .slice a3' ts'.length c3'] 35)) := ⟨_, rfl⟩
      have HXD := hid hXd
      rw [← hXd] at HC1 H1 HAL HAB
      clear hXd
      generalize prec ty ty' = e1 at *
      go_enter Tryd.func36, Tryd.ntmps36
      go_wp2_with fail
      rw [← HXD.out]
      refine HC1.out.mono ?_
      rintro e w1 ⟨rfl, hb1⟩
      rw [← HXD.out] at x0 x1 x2 x3 x4 x5 x6 x7 x8 y0 y1 y2 y3 y4 y5 y6 y7 y8
      replace x0 := cell_keep x0 hb1
      replace x1 := cell_keep x1 hb1
      replace x2 := cell_keep x2 hb1
      replace x3 := cell_keep x3 hb1
      replace x4 := cell_keep x4 hb1
      replace x5 := cell_keep x5 hb1
      replace x6 := cell_keep x6 hb1
      replace x7 := cell_keep x7 hb1
      replace x8 := cell_keep x8 hb1
      replace y0 := cell_keep y0 hb1
      replace y1 := cell_keep y1 hb1
      replace y2 := cell_keep y2 hb1
      replace y3 := cell_keep y3 hb1
      replace y4 := cell_keep y4 hb1
      replace y5 := cell_keep y5 hb1
      replace y6 := cell_keep y6 hb1
      replace y7 := cell_keep y7 hb1
      replace y8 := cell_keep y8 hb1
      cases e1
      · go_wp2_with fail
        go_ret
        exact ⟨ret_b (by rw [HT.out]; rfl), below_trans HAL.out hb1⟩
      have HB2 := hid hb1
      have HTT := hid (show tmPr (.mk 13 nm num ty fr lb ts) (.mk 13 nm num ty' fr' lb' ts') = tmPrL ts ts' by rw [HT.out]; rfl)
      clear hb1 x0 x1 x2 x3 x4 x5 x6 x7 x8 y0 y1 y2 y3 y4 y5 y6 y7 y8 HT
      go_wp2_with fail
      go_loopw [5] (fun i wr => ∃ j : Nat, j ≤ ts.length ∧ i = .int .i64 j ∧ tmPrL (ts.drop j) (ts'.drop j) = tmPrL ts ts' ∧ Below X.heap.size X wr) (fun i _ => ts.length - (intOf i).toNat)
      case atStart => exact ⟨0, Nat.zero_le _, rfl, rfl, HB2.out⟩
      case round =>
        obtain ⟨j, hj, rfl, hdr, hb⟩ := hrel
        have HD := hid hdr
        clear hdr
        have hbA := blk HAB.out.1 hb
        have hbB := blk HAB.out.2 hb
        obtain ⟨x0, x1, x2, x3, x4, x5, x6, x7, x8⟩ := cells9 hbA
        obtain ⟨y0, y1, y2, y3, y4, y5, y6, y7, y8⟩ := cells9 hbB
        clear hbA hbB
        have hbw : Below w.heap.size w wr := below_trans HAL.out hb
        by_cases hlk : j < ts.length
        · have hlk2 : j < ts'.length := by have := HL.out; omega
          obtain ⟨b, o, p0, p1, p2, p3, p4, p5, p6, p7, p8, p9, p10, p11, p12, p13, p14, fa, hab, hblt, ca0, ca1, ca2, ca3, ca4, ca5, ca6, ca7, ca8, hat, -⟩ := HG.out j hlk
          obtain ⟨b2, o2, r0, r1, r2, r3, r4, r5, r6, r7, r8, r9, r10, r11, r12, r13, r14, fb, hab2, hblt2, cb0, cb1, cb2, cb3, cb4, cb5, cb6, cb7, cb8, hat2, -⟩ := HG2.out j hlk2
          subst hab hab2
          replace ca0 := cell_keep ca0 hbw
          replace ca1 := cell_keep ca1 hbw
          replace ca2 := cell_keep ca2 hbw
          replace ca3 := cell_keep ca3 hbw
          replace ca4 := cell_keep ca4 hbw
          replace ca5 := cell_keep ca5 hbw
          replace ca6 := cell_keep ca6 hbw
          replace ca7 := cell_keep ca7 hbw
          replace ca8 := cell_keep ca8 hbw
          replace cb0 := cell_keep cb0 hbw
          replace cb1 := cell_keep cb1 hbw
          replace cb2 := cell_keep cb2 hbw
          replace cb3 := cell_keep cb3 hbw
          replace cb4 := cell_keep cb4 hbw
          replace cb5 := cell_keep cb5 hbw
          replace cb6 := cell_keep cb6 hbw
          replace cb7 := cell_keep cb7 hbw
          replace cb8 := cell_keep cb8 hbw
          have HST := hid (tmPrL_step hlk hlk2)
          have HIJ := hid (fun (w' : World) (h : Below w.heap.size w w') => HIH.out _ (List.getElem_mem hlk) _ _ _ _ _ _ _ w' (HTS.out _ (List.getElem_mem hlk)) (HUS.out _ (List.getElem_mem hlk2)) (hat.below h) (hat2.below h))
          clear hat hat2 hblt hblt2
          go_wp2_with fail
          go_still_tail 10, (by kernel_rfl)
          go_wp2_with fail
          refine (HIJ.out _ (by exact hbw.drew)).mono ?_
          rintro e w3 ⟨rfl, hb3⟩
          have hbb : Below X.heap.size X w3 := hb.trans ((below_trans (below_drew wr) hb3).mono hb.size)
          clear hb hb3 hbw ca0 ca1 ca2 ca3 ca4 ca5 ca6 ca7 ca8 cb0 cb1 cb2 cb3 cb4 cb5 cb6 cb7 cb8
          generalize tmPr ts[j] ts'[j] = r at *
          cases r
          · go_wp2_with fail
            go_ret
            exact ⟨ret_b (by rw [HTT.out, ← HD.out, HST.out, Bool.false_and]), below_trans HAL.out hbb⟩
          · go_wp2_with fail
            go_roundw
            case rel => exact ⟨j + 1, by omega, by go_num, by rw [← HD.out, HST.out, Bool.true_and], hbb⟩
            case measure => simp [intOf]; omega
        · go_wp2_with fail
          go_ret
          exact ⟨ret_b (by rw [HTT.out, ← HD.out, List.drop_of_length_le (by omega), List.drop_of_length_le (by have := HL.out; omega)]; simp only [tmPrL]), hbw⟩
  have HT := hid (show tmPr (.mk k nm num ty fr lb ts) (.mk k nm num ty' fr' lb' ts') = tmPrL ts ts' by rw [HE.out]; simp [HL.out, hk])
  have p1 : (k == 5) = false := by simp; omega
  have p2 : (k == 13) = false := by simp; omega
  clear hk
  clear HE HVV
  obtain ⟨X, hXd⟩ : ∃ X, X = ((w.alloc (Obj.cells #[.int .i64 k, .string nm, .int .i64 num, .int .i64 k1, .slice a1 n1 c1, .int .i64 k2, .slice a2 n2 c2, .int .i64 lb, .slice a3 ts.length c3] 35)).alloc (Obj.cells #[.int .i64 k, .string nm, .int .i64 num, .int .i64 k1', .slice a1' n1' c1', .int .i64 k2', .slice a2' n2' c2', .int .i64 lb', .slice a3' ts'.length c3'] 35)) := ⟨_, rfl⟩
  have HXD := hid hXd
  rw [← hXd] at H1 HAL HAB
  clear hXd
  have HB2 := hid (Below.refl X.heap.size X)
  have HTT := hid HT.out
  rw [← HXD.out] at x0 x1 x2 x3 x4 x5 x6 x7 x8 y0 y1 y2 y3 y4 y5 y6 y7 y8
  clear HT
  go_enter Tryd.func36, Tryd.ntmps36
  go_wp2_with fail
  rw [← HXD.out]
  clear x0 x1 x2 x3 x4 x5 x6 x7 x8 y0 y1 y2 y3 y4 y5 y6 y7 y8
  go_loopw [5] (fun i wr => ∃ j : Nat, j ≤ ts.length ∧ i = .int .i64 j ∧ tmPrL (ts.drop j) (ts'.drop j) = tmPrL ts ts' ∧ Below X.heap.size X wr) (fun i _ => ts.length - (intOf i).toNat)
  case atStart => exact ⟨0, Nat.zero_le _, rfl, rfl, HB2.out⟩
  case round =>
    obtain ⟨j, hj, rfl, hdr, hb⟩ := hrel
    have HD := hid hdr
    clear hdr
    have hbA := blk HAB.out.1 hb
    have hbB := blk HAB.out.2 hb
    obtain ⟨x0, x1, x2, x3, x4, x5, x6, x7, x8⟩ := cells9 hbA
    obtain ⟨y0, y1, y2, y3, y4, y5, y6, y7, y8⟩ := cells9 hbB
    clear hbA hbB
    have hbw : Below w.heap.size w wr := below_trans HAL.out hb
    by_cases hlk : j < ts.length
    · have hlk2 : j < ts'.length := by have := HL.out; omega
      obtain ⟨b, o, p0, p1, p2, p3, p4, p5, p6, p7, p8, p9, p10, p11, p12, p13, p14, fa, hab, hblt, ca0, ca1, ca2, ca3, ca4, ca5, ca6, ca7, ca8, hat, -⟩ := HG.out j hlk
      obtain ⟨b2, o2, r0, r1, r2, r3, r4, r5, r6, r7, r8, r9, r10, r11, r12, r13, r14, fb, hab2, hblt2, cb0, cb1, cb2, cb3, cb4, cb5, cb6, cb7, cb8, hat2, -⟩ := HG2.out j hlk2
      subst hab hab2
      replace ca0 := cell_keep ca0 hbw
      replace ca1 := cell_keep ca1 hbw
      replace ca2 := cell_keep ca2 hbw
      replace ca3 := cell_keep ca3 hbw
      replace ca4 := cell_keep ca4 hbw
      replace ca5 := cell_keep ca5 hbw
      replace ca6 := cell_keep ca6 hbw
      replace ca7 := cell_keep ca7 hbw
      replace ca8 := cell_keep ca8 hbw
      replace cb0 := cell_keep cb0 hbw
      replace cb1 := cell_keep cb1 hbw
      replace cb2 := cell_keep cb2 hbw
      replace cb3 := cell_keep cb3 hbw
      replace cb4 := cell_keep cb4 hbw
      replace cb5 := cell_keep cb5 hbw
      replace cb6 := cell_keep cb6 hbw
      replace cb7 := cell_keep cb7 hbw
      replace cb8 := cell_keep cb8 hbw
      have HST := hid (tmPrL_step hlk hlk2)
      have HIJ := hid (fun (w' : World) (h : Below w.heap.size w w') => HIH.out _ (List.getElem_mem hlk) _ _ _ _ _ _ _ w' (HTS.out _ (List.getElem_mem hlk)) (HUS.out _ (List.getElem_mem hlk2)) (hat.below h) (hat2.below h))
      clear hat hat2 hblt hblt2
      go_wp2_with fail
      go_still_tail 10, (by kernel_rfl)
      go_wp2_with fail
      refine (HIJ.out _ (by exact hbw.drew)).mono ?_
      rintro e w3 ⟨rfl, hb3⟩
      have hbb : Below X.heap.size X w3 := hb.trans ((below_trans (below_drew wr) hb3).mono hb.size)
      clear hb hb3 hbw ca0 ca1 ca2 ca3 ca4 ca5 ca6 ca7 ca8 cb0 cb1 cb2 cb3 cb4 cb5 cb6 cb7 cb8
      generalize tmPr ts[j] ts'[j] = r at *
      cases r
      · go_wp2_with fail
        go_ret
        exact ⟨ret_b (by rw [HTT.out, ← HD.out, HST.out, Bool.false_and]), below_trans HAL.out hbb⟩
      · go_wp2_with fail
        go_roundw
        case rel => exact ⟨j + 1, by omega, by go_num, by rw [← HD.out, HST.out, Bool.true_and], hbb⟩
        case measure => simp [intOf]; omega
    · go_wp2_with fail
      go_ret
      exact ⟨ret_b (by rw [HTT.out, ← HD.out, List.drop_of_length_le (by omega), List.drop_of_length_le (by have := HL.out; omega)]; simp only [tmPrL]), hbw⟩

theorem l3Precise_any (t u : Tm) (d1 d2 : Nat) (v1 v2 : Value) (f1 f2 : List Nat) (w : World) (hs1 : shpM d1 t = true) (hs2 : shpM d2 u = true) (h1 : t.At w v1 f1) (h2 : u.At w v2 f2) :
    Calls Tryd.prog 36 #[v1, v2] w fun e w' => e = .returned (.bool (tmPr t u)) ∧ Below w.heap.size w w' := Tm.ind l3Precise_of t u d1 d2 v1 v2 f1 f2 w hs1 hs2 h1 h2

set_option linter.unusedVariables false in
set_option maxHeartbeats 1000000 in
set_option maxRecDepth 100000 in
theorem specTermPrecise (t u : Tm) (v1 v2 : Value) (f1 f2 : List Nat) (w : World) (hz1 : t.sz ≤ 1048576) (hz2 : u.sz ≤ 1048576) (h1 : t.At w v1 f1) (h2 : u.At w v2 f2) :
    Calls Tryd.prog 10 #[v1, v2] w fun e w' => e = .returned (.bool (tpV t u)) ∧ Below w.heap.size w w' := by
  obtain ⟨k, nm, num, k1, n1, a1, c1, k2, n2, a2, c2, lb, n3, a3, c3, rfl⟩ := h1.agg
  obtain ⟨k', nm', num', k1', n1', a1', c1', k2', n2', a2', c2', lb', n3', a3', c3', rfl⟩ := h2.agg
  have hb0 : Below w.heap.size w ((w.alloc (Obj.cells #[.int .i64 k, .string nm, .int .i64 num, .int .i64 k1, .slice a1 n1 c1, .int .i64 k2, .slice a2 n2 c2, .int .i64 lb, .slice a3 n3 c3] 35)).alloc (Obj.cells #[.int .i64 k', .string nm', .int .i64 num', .int .i64 k1', .slice a1' n1' c1', .int .i64 k2', .slice a2' n2' c2', .int .i64 lb', .slice a3' n3' c3'] 35)) := ((Below.refl _ _).alloc (Nat.le_refl _) _).alloc (by simp) _
  have HA := hid (h1.below hb0)
  have HU := hid (h2.below hb0)
  have HB := hid hb0
  have HV1 := hid (specTermValid t _ _ _ hz1 (h1.below hb0))
  have HV2 := hid (fun (w' : World) (h : Below ((w.alloc (Obj.cells #[.int .i64 k, .string nm, .int .i64 num, .int .i64 k1, .slice a1 n1 c1, .int .i64 k2, .slice a2 n2 c2, .int .i64 lb, .slice a3 n3 c3] 35)).alloc (Obj.cells #[.int .i64 k', .string nm', .int .i64 num', .int .i64 k1', .slice a1' n1' c1', .int .i64 k2', .slice a2' n2' c2', .int .i64 lb', .slice a3' n3' c3'] 35)).heap.size ((w.alloc (Obj.cells #[.int .i64 k, .string nm, .int .i64 num, .int .i64 k1, .slice a1 n1 c1, .int .i64 k2, .slice a2 n2 c2, .int .i64 lb, .slice a3 n3 c3] 35)).alloc (Obj.cells #[.int .i64 k', .string nm', .int .i64 num', .int .i64 k1', .slice a1' n1' c1', .int .i64 k2', .slice a2' n2' c2', .int .i64 lb', .slice a3' n3' c3'] 35)) w') => specTermValid u _ _ w' hz2 ((h2.below hb0).below h))
  have HT := hid (show tpV t u = (vldM t && (vldM u && tmPr t u)) by rw [tpV, Bool.and_assoc])
  have HSH1 := hid (fun h : vldM t = true => vldM_shp h)
  have HSH2 := hid (fun h : vldM u = true => vldM_shp h)
  generalize hr1 : vldM t = r1 at *
  generalize hr2 : vldM u = r2 at *
  clear h1 h2 hb0 hr1 hr2
  go_enter Tryd.func10, Tryd.ntmps10
  go_wp2_with fail
  refine HV1.out.mono ?_
  rintro e w1 ⟨rfl, hb1⟩
  cases r1
  · go_wp2_with fail
    go_ret
    exact ⟨ret_b (by rw [HT.out]; rfl), below_trans HB.out hb1⟩
  obtain ⟨hbA, hbB⟩ := two_outMm hb1
  obtain ⟨x0, x1, x2, x3, x4, x5, x6, x7, x8⟩ := cells9 hbA
  obtain ⟨y0, y1, y2, y3, y4, y5, y6, y7, y8⟩ := cells9 hbB
  clear hbA hbB
  have HB1 := hid hb1
  clear hb1
  go_wp2_with fail
  refine (HV2.out _ HB1.out).mono ?_
  rintro e w2 ⟨rfl, hb2⟩
  cases r2
  · go_wp2_with fail
    go_ret
    exact ⟨ret_b (by rw [HT.out]; rfl), below_trans HB.out (below_trans HB1.out hb2)⟩
  replace x0 := cell_keep x0 hb2
  replace x1 := cell_keep x1 hb2
  replace x2 := cell_keep x2 hb2
  replace x3 := cell_keep x3 hb2
  replace x4 := cell_keep x4 hb2
  replace x5 := cell_keep x5 hb2
  replace x6 := cell_keep x6 hb2
  replace x7 := cell_keep x7 hb2
  replace x8 := cell_keep x8 hb2
  replace y0 := cell_keep y0 hb2
  replace y1 := cell_keep y1 hb2
  replace y2 := cell_keep y2 hb2
  replace y3 := cell_keep y3 hb2
  replace y4 := cell_keep y4 hb2
  replace y5 := cell_keep y5 hb2
  replace y6 := cell_keep y6 hb2
  replace y7 := cell_keep y7 hb2
  replace y8 := cell_keep y8 hb2
  have HB2 := hid (below_trans HB1.out hb2)
  have HC := hid (l3Precise_any t u 12 12 _ _ _ _ w2 (by first | exact HSH1.out trivial | exact HSH1.out rfl) (by first | exact HSH2.out trivial | exact HSH2.out rfl) (HA.out.below HB2.out) (HU.out.below HB2.out))
  clear hb2
  go_wp2_with fail
  refine HC.out.mono ?_
  rintro e w3 ⟨rfl, hb3⟩
  generalize tmPr t u = r at *
  go_wp2_with fail
  go_ret
  exact ⟨ret_b (by rw [HT.out]; rfl), below_trans HB.out (below_trans HB2.out hb3)⟩
end Go.Proofs.YtppjeeklckdlgaaDoor
