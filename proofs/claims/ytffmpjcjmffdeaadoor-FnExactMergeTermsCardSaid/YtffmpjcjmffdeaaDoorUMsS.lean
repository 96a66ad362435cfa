/- TermSame of the specification. -/
import Derived.StillTailTactics
import Derived.Test.YtffmpjcjmffdeaaDoorUPkB
import Derived.Test.YtffmpjcjmffdeaaDoorUG1
namespace Go.Proofs.YtffmpjcjmffdeaaDoor
open Go.RowKit

mutual
def tmEq : Tm → Tm → Bool
  | .mk k nm num ty fr lb ts, .mk k' nm' num' ty' fr' lb' us => decide (k = k') && decide (nm = nm') && decide (num = num') && decide (lb = lb') && tyEq ty ty' && tyEq fr fr' && tmEqL ts us
def tmEqL : List Tm → List Tm → Bool
  | [], [] => true
  | t :: ts, u :: us => tmEq t u && tmEqL ts us
  | _, _ => false
end

mutual
theorem tmEq_refl : ∀ t, tmEq t t = true
  | .mk k nm num ty fr lb ts => by simp [tmEq, tyEq_refl, tmEqL_refl ts]
theorem tmEqL_refl : ∀ ts, tmEqL ts ts = true
  | [] => rfl
  | t :: ts => by simp [tmEqL, tmEq_refl t, tmEqL_refl ts]
end

mutual
theorem eq_of_tmEq : ∀ {t u : Tm}, tmEq t u = true → t = u
  | .mk k nm num ty fr lb ts, .mk k' nm' num' ty' fr' lb' us, h => by
    simp only [tmEq, Bool.and_eq_true, decide_eq_true_eq] at h
    obtain ⟨⟨⟨⟨⟨⟨rfl, rfl⟩, rfl⟩, rfl⟩, h1⟩, h2⟩, h3⟩ := h
    rw [eq_of_tyEq h1, eq_of_tyEq h2, eqL_of_tmEq h3]
theorem eqL_of_tmEq : ∀ {ts us : List Tm}, tmEqL ts us = true → ts = us
  | [], [], _ => rfl
  | [], _ :: _, h => by simp [tmEqL] at h
  | _ :: _, [], h => by simp [tmEqL] at h
  | t :: ts, u :: us, h => by
    simp only [tmEqL, Bool.and_eq_true] at h
    rw [eq_of_tmEq h.1, eqL_of_tmEq h.2]
end

theorem tmEqL_len {ts us : List Tm} (h : ts.length ≠ us.length) : tmEqL ts us = false := by
  cases e : tmEqL ts us with
  | false => rfl
  | true => exact absurd (by rw [eqL_of_tmEq e]) h

theorem tmEqL_step : ∀ {ts us : List Tm} {j : Nat} (h1 : j < ts.length) (h2 : j < us.length), tmEqL (ts.drop j) (us.drop j) = (tmEq ts[j] us[j] && tmEqL (ts.drop (j + 1)) (us.drop (j + 1)))
  | t :: ts, u :: us, 0, _, _ => rfl
  | t :: ts, u :: us, j + 1, h1, h2 => by
    simp only [List.drop_succ_cons, List.getElem_cons_succ]
    exact tmEqL_step (by simpa using h1) (by simpa using h2)

def TmsC (t : Tm) : Prop := ∀ (u : Tm) (v1 v2 : Value) (f1 f2 : List Nat) (w : World), t.At w v1 f1 → u.At w v2 f2 →
  Calls Tryd.prog 71 #[v1, v2] w fun e w' => e = .returned (.bool (tmEq t u)) ∧ Below w.heap.size w w'

theorem two_outMm {w wr : World} {o1 o2 : Obj} (h : Below ((w.alloc o1).alloc o2).heap.size ((w.alloc o1).alloc o2) wr) :
    wr.heap[w.heap.size]? = some o1 ∧ wr.heap[w.heap.size + 1]? = some o2 := by
  refine ⟨(h.block w.heap.size (by simp; omega)).trans ((Below.heap_alloc _ _ _ (by simp)).trans (alloc_new w _)), ?_⟩
  rw [h.block _ (by simp)]
  have := alloc_new (w.alloc o1) o2
  simpa using this

theorem nmList_ne {x y : ByteArray} (h : x ≠ y) : (x.toList == y.toList) = false := by
  rw [beq_eq_false_iff_ne]
  intro he
  rw [Lib.toList_data, Lib.toList_data] at he
  exact h (ByteArray.ext (Array.toList_inj.1 he))

set_option maxHeartbeats 2000000 in
set_option maxRecDepth 100000 in
theorem specTermSame_of (k : Int) (nm : ByteArray) (num : Int) (ty fr : Ty) (lb : Int) (ts : List Tm) (ih : ∀ t ∈ ts, TmsC t) : TmsC (.mk k nm num ty fr lb ts) := by
  intro u v1 v2 f1 f2 w h1 h2
  have HIH := hid ih
  clear ih
  obtain ⟨k', nm', num', ty', fr', lb', ts', rfl⟩ := u.shape
  obtain ⟨k1, n1, a1, c1, k2, n2, a2, c2, a3, c3, g1, g2, g3, rfl, hnm, ht1, ht2, rfl, hs⟩ := h1.parts
  obtain ⟨k1', n1', a1', c1', k2', n2', a2', c2', a3', c3', g1', g2', g3', rfl, hnm', hu1, hu2, rfl, hs'⟩ := h2.parts
  obtain ⟨a, cap, hss, hc, hm, hget⟩ := hs.open
  cases hss
  obtain ⟨a', cap', hss', hc', hm', hget'⟩ := hs'.open
  cases hss'
  have HG := hid hget
  have HG2 := hid hget'
  have hal : Below w.heap.size w ((w.alloc (Obj.cells #[.int .i64 k, .string nm, .int .i64 num, .int .i64 k1, .slice a1 n1 c1, .int .i64 k2, .slice a2 n2 c2, .int .i64 lb, .slice a3 ts.length c3] 35)).alloc (Obj.cells #[.int .i64 k', .string nm', .int .i64 num', .int .i64 k1', .slice a1' n1' c1', .int .i64 k2', .slice a2' n2' c2', .int .i64 lb', .slice a3' ts'.length c3'] 35)) := ((Below.refl _ _).alloc (Nat.le_refl _) _).alloc (by simp) _
  have HAL := hid hal
  have H1 := hid (And.intro (ht1.below hal) (And.intro (hu1.below hal) (And.intro (ht2.below hal) (hu2.below hal))))
  have HE := hid (show tmEq (.mk k nm num ty fr lb ts) (.mk k' nm' num' ty' fr' lb' ts') = (decide (k = k') && decide (nm = nm') && decide (num = num') && decide (lb = lb') && tyEq ty ty' && tyEq fr fr' && tmEqL ts ts') by rw [tmEq])
  obtain ⟨hbA, hbB⟩ := two_outMm (Below.refl (((w.alloc (Obj.cells #[.int .i64 k, .string nm, .int .i64 num, .int .i64 k1, .slice a1 n1 c1, .int .i64 k2, .slice a2 n2 c2, .int .i64 lb, .slice a3 ts.length c3] 35)).alloc (Obj.cells #[.int .i64 k', .string nm', .int .i64 num', .int .i64 k1', .slice a1' n1' c1', .int .i64 k2', .slice a2' n2' c2', .int .i64 lb', .slice a3' ts'.length c3'] 35))).heap.size ((w.alloc (Obj.cells #[.int .i64 k, .string nm, .int .i64 num, .int .i64 k1, .slice a1 n1 c1, .int .i64 k2, .slice a2 n2 c2, .int .i64 lb, .slice a3 ts.length c3] 35)).alloc (Obj.cells #[.int .i64 k', .string nm', .int .i64 num', .int .i64 k1', .slice a1' n1' c1', .int .i64 k2', .slice a2' n2' c2', .int .i64 lb', .slice a3' ts'.length c3'] 35)))
  obtain ⟨x0, x1, x2, x3, x4, x5, x6, x7, x8⟩ := cells9 hbA
  obtain ⟨y0, y1, y2, y3, y4, y5, y6, y7, y8⟩ := cells9 hbB
  have HAB := hid (And.intro hbA hbB)
  clear hget hget' hs hs' h1 h2 ht1 ht2 hu1 hu2 hal hbA hbB
  by_cases hq : k = k'
  case neg =>
    have HT := hid (show tmEq (.mk k nm num ty fr lb ts) (.mk k' nm' num' ty' fr' lb' ts') = false by rw [HE.out]; simp [hq])
    have q1 : (k == k') = false := by simpa using hq
    have q2 : (k != k') = true := by simpa using hq
    clear hq
    go_enter Tryd.func71, Tryd.ntmps71
    go_wp2_with fail
    go_ret
    exact ⟨ret_b HT.out.symm, HAL.out⟩
  subst hq
  by_cases hq : nm = nm'
  case neg =>
    have HT := hid (show tmEq (.mk k nm num ty fr lb ts) (.mk k nm' num' ty' fr' lb' ts') = false by rw [HE.out]; simp [hq])
    have q1 : (nm.toList == nm'.toList) = false := nmList_ne hq
    have q2 : (nm.toList != nm'.toList) = true := by simp [bne, q1]
    clear hq
    go_enter Tryd.func71, Tryd.ntmps71
    go_wp2_with fail
    go_ret
    exact ⟨ret_b HT.out.symm, HAL.out⟩
  subst hq
  by_cases hq : num = num'
  case neg =>
    have HT := hid (show tmEq (.mk k nm num ty fr lb ts) (.mk k nm num' ty' fr' lb' ts') = false by rw [HE.out]; simp [hq])
    have q1 : (num == num') = false := by simpa using hq
    have q2 : (num != num') = true := by simpa using hq
    clear hq
    go_enter Tryd.func71, Tryd.ntmps71
    go_wp2_with fail
    go_ret
    exact ⟨ret_b HT.out.symm, HAL.out⟩
  subst hq
  by_cases hq : lb = lb'
  case neg =>
    have HT := hid (show tmEq (.mk k nm num ty fr lb ts) (.mk k nm num ty' fr' lb' ts') = false by rw [HE.out]; simp [hq])
    have q1 : (lb == lb') = false := by simpa using hq
    have q2 : (lb != lb') = true := by simpa using hq
    clear hq
    go_enter Tryd.func71, Tryd.ntmps71
    go_wp2_with fail
    go_ret
    exact ⟨ret_b HT.out.symm, HAL.out⟩
  subst hq
  by_cases hq : ts.length = ts'.length
  case neg =>
    have HT := hid (show tmEq (.mk k nm num ty fr lb ts) (.mk k nm num ty' fr' lb ts') = false by rw [HE.out]; simp [tmEqL_len hq])
    have q1 : ((ts.length : Int) != (ts'.length : Int)) = true := by simp; omega
    have q2 : ((ts.length : Int) == (ts'.length : Int)) = false := by simp; omega
    clear hq
    go_enter Tryd.func71, Tryd.ntmps71
    go_wp2_with fail
    go_ret
    exact ⟨ret_b HT.out.symm, HAL.out⟩
  have q1 : ((ts.length : Int) != (ts'.length : Int)) = false := by simp; omega
  have q2 : ((ts.length : Int) == (ts'.length : Int)) = true := by simp; omega
  have HL := hid hq
  clear hq
  have HT := hid (show tmEq (.mk k nm num ty fr lb ts) (.mk k nm num ty' fr' lb ts') = (tyEq ty ty' && (tyEq fr fr' && tmEqL ts ts')) by rw [HE.out]; simp [Bool.and_assoc])
  clear HE
  have HC1 := hid (specTypeSame ty ty' _ _ _ _ _ H1.out.1 H1.out.2.1)
  obtain ⟨X, hXd⟩ : ∃ X, X = ((w.alloc (Obj.cells #[.int .i64 k, .string nm, .int .i64 num, .int .i64 k1, .slice a1 n1 c1, .int .i64 k2, .slice a2 n2 c2, .int .i64 lb, .slice a3 ts.length c3] 35)).alloc (Obj.cells #[.int .i64 k, .string nm, .int .i64 num, .int .i64 k1', .slice a1' n1' c1', .int .i64 k2', .slice a2' n2' c2', .int .i64 lb, .slice a3' ts'.length c3'] 35)) := ⟨_, rfl⟩
  have HXD := hid hXd
  rw [← hXd] at HC1 H1 HAL HAB
  clear hXd
  have HC2 := hid (fun (w' : World) (h : Below X.heap.size X w') => specTypeSame fr fr' _ _ _ _ w' (H1.out.2.2.1.below h) (H1.out.2.2.2.below h))
  generalize tyEq ty ty' = e1 at *
  generalize tyEq fr fr' = e2 at *
  go_enter Tryd.func71, Tryd.ntmps71
  go_wp2_with fail
  rw [← HXD.out]
  refine HC1.out.mono ?_
  rintro e w1 ⟨rfl, hb1⟩
  rw [← HXD.out] at x0 x1 x2 x3 x4 x5 x6 x7 x8 y0 y1 y2 y3 y4 y5 y6 y7 y8
  replace x0 := cell_keep x0 hb1
  replace x1 := cell_keep x1 hb1
  replace x2 := cell_keep x2 hb1
  replace x3 := cell_keep x3 hb1
  replace x4 := cell_keep x4 hb1
  replace x5 := cell_keep x5 hb1
  replace x6 := cell_keep x6 hb1
  replace x7 := cell_keep x7 hb1
  replace x8 := cell_keep x8 hb1
  replace y0 := cell_keep y0 hb1
  replace y1 := cell_keep y1 hb1
  replace y2 := cell_keep y2 hb1
  replace y3 := cell_keep y3 hb1
  replace y4 := cell_keep y4 hb1
  replace y5 := cell_keep y5 hb1
  replace y6 := cell_keep y6 hb1
  replace y7 := cell_keep y7 hb1
  replace y8 := cell_keep y8 hb1
  cases e1
  · go_wp2_with fail
    go_ret
    exact ⟨ret_b (by rw [HT.out]; rfl), below_trans HAL.out hb1⟩
  have HB1 := hid hb1
  have HC3 := hid (HC2.out w1 hb1)
  clear hb1
  go_wp2_with fail
  refine HC3.out.mono ?_
  rintro e w2 ⟨rfl, hb2⟩
  replace x0 := cell_keep x0 hb2
  replace x1 := cell_keep x1 hb2
  replace x2 := cell_keep x2 hb2
  replace x3 := cell_keep x3 hb2
  replace x4 := cell_keep x4 hb2
  replace x5 := cell_keep x5 hb2
  replace x6 := cell_keep x6 hb2
  replace x7 := cell_keep x7 hb2
  replace x8 := cell_keep x8 hb2
  replace y0 := cell_keep y0 hb2
  replace y1 := cell_keep y1 hb2
  replace y2 := cell_keep y2 hb2
  replace y3 := cell_keep y3 hb2
  replace y4 := cell_keep y4 hb2
  replace y5 := cell_keep y5 hb2
  replace y6 := cell_keep y6 hb2
  replace y7 := cell_keep y7 hb2
  replace y8 := cell_keep y8 hb2
  cases e2
  · go_wp2_with fail
    go_ret
    exact ⟨ret_b (by rw [HT.out]; rfl), below_trans HAL.out (below_trans HB1.out hb2)⟩
  have HB2 := hid (below_trans HB1.out hb2)
  have HTT := hid (show tmEq (.mk k nm num ty fr lb ts) (.mk k nm num ty' fr' lb ts') = tmEqL ts ts' by rw [HT.out]; rfl)
  clear hb2 x0 x1 x2 x3 x4 x5 x6 x7 x8 y0 y1 y2 y3 y4 y5 y6 y7 y8 HT
  go_wp2_with fail
  go_loopw [5] (fun i wr => ∃ j : Nat, j ≤ ts.length ∧ i = .int .i64 j ∧ tmEqL (ts.drop j) (ts'.drop j) = tmEqL ts ts' ∧ Below X.heap.size X wr) (fun i _ => ts.length - (intOf i).toNat)
  case atStart => exact ⟨0, Nat.zero_le _, rfl, rfl, HB2.out⟩
  case round =>
    obtain ⟨j, hj, rfl, hdr, hb⟩ := hrel
    have HD := hid hdr
    clear hdr
    have hbA := blk HAB.out.1 hb
    have hbB := blk HAB.out.2 hb
    obtain ⟨x0, x1, x2, x3, x4, x5, x6, x7, x8⟩ := cells9 hbA
    obtain ⟨y0, y1, y2, y3, y4, y5, y6, y7, y8⟩ := cells9 hbB
    clear hbA hbB
    have hbw : Below w.heap.size w wr := below_trans HAL.out hb
    by_cases hlk : j < ts.length
    · have hlk2 : j < ts'.length := by have := HL.out; omega
      obtain ⟨b, o, p0, p1, p2, p3, p4, p5, p6, p7, p8, p9, p10, p11, p12, p13, p14, fa, hab, hblt, ca0, ca1, ca2, ca3, ca4, ca5, ca6, ca7, ca8, hat, -⟩ := HG.out j hlk
      obtain ⟨b2, o2, r0, r1, r2, r3, r4, r5, r6, r7, r8, r9, r10, r11, r12, r13, r14, fb, hab2, hblt2, cb0, cb1, cb2, cb3, cb4, cb5, cb6, cb7, cb8, hat2, -⟩ := HG2.out j hlk2
      subst hab hab2
      replace ca0 := cell_keep ca0 hbw
      replace ca1 := cell_keep ca1 hbw
      replace ca2 := cell_keep ca2 hbw
      replace ca3 := cell_keep ca3 hbw
      replace ca4 := cell_keep ca4 hbw
      replace ca5 := cell_keep ca5 hbw
      replace ca6 := cell_keep ca6 hbw
      replace ca7 := cell_keep ca7 hbw
      replace ca8 := cell_keep ca8 hbw
      replace cb0 := cell_keep cb0 hbw
      replace cb1 := cell_keep cb1 hbw
      replace cb2 := cell_keep cb2 hbw
      replace cb3 := cell_keep cb3 hbw
      replace cb4 := cell_keep cb4 hbw
      replace cb5 := cell_keep cb5 hbw
      replace cb6 := cell_keep cb6 hbw
      replace cb7 := cell_keep cb7 hbw
      replace cb8 := cell_keep cb8 hbw
      have HST := hid (tmEqL_step hlk hlk2)
      have HIJ := hid (fun (w' : World) (h : Below w.heap.size w w') => HIH.out _ (List.getElem_mem hlk) _ _ _ _ _ w' (hat.below h) (hat2.below h))
      clear hat hat2 hblt hblt2
      go_wp2_with fail
      go_still_tail 10, (by kernel_rfl)
      go_wp2_with fail
      refine (HIJ.out _ (by exact hbw.drew)).mono ?_
      rintro e w3 ⟨rfl, hb3⟩
      have hbb : Below X.heap.size X w3 := hb.trans ((below_trans (below_drew wr) hb3).mono hb.size)
      clear hb hb3 hbw ca0 ca1 ca2 ca3 ca4 ca5 ca6 ca7 ca8 cb0 cb1 cb2 cb3 cb4 cb5 cb6 cb7 cb8
      generalize tmEq ts[j] ts'[j] = r at *
      cases r
      · go_wp2_with fail
        go_ret
        exact ⟨ret_b (by rw [HTT.out, ← HD.out, HST.out, Bool.false_and]), below_trans HAL.out hbb⟩
      · go_wp2_with fail
        go_roundw
        case rel => exact ⟨j + 1, by omega, by go_num, by rw [← HD.out, HST.out, Bool.true_and], hbb⟩
        case measure => simp [intOf]; omega
    · go_wp2_with fail
      go_ret
      exact ⟨ret_b (by rw [HTT.out, ← HD.out, List.drop_of_length_le (by omega), List.drop_of_length_le (by have := HL.out; omega)]; simp only [tmEqL]), hbw⟩

theorem specTermSame (t u : Tm) (v1 v2 : Value) (f1 f2 : List Nat) (w : World) (h1 : t.At w v1 f1) (h2 : u.At w v2 f2) :
    Calls Tryd.prog 71 #[v1, v2] w fun e w' => e = .returned (.bool (tmEq t u)) ∧ Below w.heap.size w w' := Tm.ind specTermSame_of t u v1 v2 f1 f2 w h1 h2
end Go.Proofs.YtffmpjcjmffdeaaDoor
