/- ValueText, of the program. -/
import Derived.Test.YtgekfnodmgkdaaaDoorSv6
import Derived.Test.YtgekfnodmgkdaaaDoorBx
namespace Go.Proofs.YtgekfnodmgkdaaaDoor
open Go.RowKit

/-- What stands ahead of a round of the loop. -/
def VtR (w : World) (t : Tm) (u : Tm) (vs : Array Value) (fu : List Nat) (wr : World) : Prop :=
  wr.heap[w.heap.size]? = some (.cells vs 35 (0, 0)) ∧ u.At w (.agg vs) fu ∧ vldC u = true ∧ isV u = true ∧ vtx u = vtx t ∧ Below w.heap.size w wr

theorem kid_vldC {k : Int} {nm : ByteArray} {num : Int} {ty fr : Ty} {lb : Int} {ts : List Tm} (h : vldC (.mk k nm num ty fr lb ts) = true) {i : Nat} (hi : i < ts.length) : vldC (ts.getD i zT) = true := by
  obtain ⟨h1, h2, h3⟩ := vldC_out h
  have hok := okNL_get (okN_kids h1).2.2.2 hi
  have hn := nds_get hi
  have hd : dps (ts.getD i zT) ≤ dpsL ts := by
    have : ∀ (ts : List Tm) (i : Nat), i < ts.length → dps (ts.getD i zT) ≤ dpsL ts := by
      intro ts
      induction ts with
      | nil => intro i h; simp at h
      | cons a bs ih =>
        intro i h
        cases i with
        | zero => simp only [List.getD_cons_zero, dpsL]; omega
        | succ i =>
          have := ih i (by simpa using h)
          simp only [List.getD_cons_succ, dpsL]
          omega
    exact this ts i hi
  simp only [dps, nds] at h2 h3
  rw [vldC_ok]
  simp only [Bool.and_eq_true, decide_eq_true_eq]
  exact ⟨hok, by omega, by omega⟩

/-- The text of a value that is neither a pair nor a function nor an injection. -/
theorem vtx_fmt {u : Tm} (hv : vldC u = true) (h : ∃ k nm num ty fr lb ts, u = .mk k nm num ty fr lb ts ∧ (k = 2 ∨ k = 3 ∨ k = 4)) : fmtC u = vtx u := by
  obtain ⟨k, nm, num, ty, fr, lb, ts, rfl, hk⟩ := h
  have hok := (vldC_out hv).1
  unfold fmtC
  rw [if_pos hv, vtx]
  rcases hk with rfl | rfl | rfl
  · obtain ⟨h1, h2⟩ := num_rng hok
    obtain ⟨m, rfl⟩ : ∃ m : Nat, num = (m : Int) := ⟨num.toNat, by omega⟩
    rw [tmX_2, Lib.itoa_nonneg]
    simp
  · simp [tmX_3]
  · simp [tmX_4]

/-- The text of a value that is no cast. -/
def plT : Tm → List UInt8
  | .mk k nm num ty fr lb ts => if k = 10 then pairS else if k = 5 then funS else fmtC (.mk k nm num ty fr lb ts)

set_option maxHeartbeats 1000000 in
theorem plainText_any (u : Tm) (v : Value) (fp : List Nat) (w : World) (hat : u.At w v fp) (hfm : ∀ w', Below w.heap.size w w' → Calls Tryd.prog 151 #[v] w' fun e w'' => e = .returned (.string ⟨(fmtC u).toArray⟩) ∧ Below w'.heap.size w' w'') :
    Calls Tryd.prog 94 #[v] w fun e w' => e = .returned (.string ⟨(plT u).toArray⟩) ∧ Below w.heap.size w w' := by
  obtain ⟨k, nm, num, ty, fr, lb, ts, rfl⟩ := u.shape
  obtain ⟨k1, n1, a1, c1, k2, n2, a2, c2, a3, c3, f1, f2, f3, rfl, hnm, ht1, ht2, rfl, hs⟩ := hat.parts
  generalize hln : ts.length = n3 at *
  have hb0 : Below w.heap.size w (w.alloc (Obj.cells #[.int .i64 k, .string nm, .int .i64 num, .int .i64 k1, .slice a1 n1 c1, .int .i64 k2, .slice a2 n2 c2, .int .i64 lb, .slice a3 n3 c3] 35)) := (Below.refl _ _).alloc (Nat.le_refl _) _
  have HB := hid hb0
  have HFM := hid (hfm _ hb0)
  clear hat hfm ht1 ht2 hs hnm hln hb0
  by_cases h10 : k = 10
  · have HR := hid (show plT (.mk k nm num ty fr lb ts) = pairS by simp [plT, h10])
    subst h10
    go_enter Tryd.func94, Tryd.ntmps94
    go_wp2_with fail
    go_ret
    exact ⟨ret_s (by rw [HR.out]; rfl), HB.out⟩
  have e10 : (k == 10) = false := by simpa using h10
  by_cases h5 : k = 5
  · have HR := hid (show plT (.mk k nm num ty fr lb ts) = funS by simp [plT, h5])
    subst h5
    go_enter Tryd.func94, Tryd.ntmps94
    go_wp2_with fail
    go_ret
    exact ⟨ret_s (by rw [HR.out]; rfl), HB.out⟩
  have e5 : (k == 5) = false := by simpa using h5
  have HR := hid (show plT (.mk k nm num ty fr lb ts) = fmtC (.mk k nm num ty fr lb ts) by simp [plT, h10, h5])
  rw [← HR.out] at HFM
  generalize (⟨(plT (.mk k nm num ty fr lb ts)).toArray⟩ : ByteArray) = r at *
  go_enter Tryd.func94, Tryd.ntmps94
  go_wp2_with fail
  refine HFM.out.mono ?_
  rintro e w1 ⟨rfl, hb1⟩
  go_wp2_with fail
  go_ret
  exact ⟨rfl, below_trans HB.out hb1⟩

set_option maxRecDepth 100000 in
set_option maxHeartbeats 4000000 in
theorem implValueText (t : Tm) (v : Value) (fp : List Nat) (w : World) (hF : Forms w) (htab : Lib.TabIs Tryd.prog w "internal/strconv.uint64pow10" .u64 Lib.pow10Tab) (hat : t.At w v fp) :
    Calls Tryd.prog 41 #[v] w fun e w' => e = .returned (.string ⟨(valS t).toArray⟩) ∧ Below w.heap.size w w' := by
  have hat0 := hat
  obtain ⟨k, nm, num, k1, n1, a1, c1, k2, n2, a2, c2, lb, n3, a3, c3, rfl⟩ := hat.agg
  have hb0 : Below w.heap.size w (w.alloc (Obj.cells #[.int .i64 k, .string nm, .int .i64 num, .int .i64 k1, .slice a1 n1 c1, .int .i64 k2, .slice a2 n2 c2, .int .i64 lb, .slice a3 n3 c3] 35)) := (Below.refl _ _).alloc (Nat.le_refl _) _
  have HIV := hid (implIsValue t _ _ _ (hF.below hb0) (hat0.below hb0))
  have HF := hid hF
  have HTAB := hid (Lib.tabBelow_of_tabIs htab)
  have HE := hid (show valS t = if (vldC t && isV t) = true then vtx t else [] from rfl)
  have HB := hid hb0
  have HA := hid hat0
  have HCV := hid (show (vldC t && isV t) = true → vldC t = true ∧ isV t = true by intro h; simpa using h)
  generalize (vldC t && isV t) = cv at *
  clear hat hat0 hb0 hF htab
  go_enter Tryd.func41, Tryd.ntmps41
  go_wp2_with fail
  refine HIV.out.mono ?_
  rintro e w1 ⟨rfl, hb1⟩
  have HB1 := hid (below_trans HB.out hb1)
  have hO := (hb1.block w.heap.size (by simp)).trans (alloc_new w _)
  cases cv
  · obtain ⟨z0, z1, z2, z3, z4, z5, z6, z7, z8⟩ := box9 hb1
    clear hb1
    go_wp2_with fail
    go_ret
    exact ⟨ret_s (by rw [HE.out]; rfl), HB1.out⟩
  have HE2 := hid (show valS t = vtx t by rw [HE.out]; rfl)
  obtain ⟨hv, hiv⟩ := HCV.out rfl
  have HR0 := hid (show VtR w t t #[.int .i64 k, .string nm, .int .i64 num, .int .i64 k1, .slice a1 n1 c1, .int .i64 k2, .slice a2 n2 c2, .int .i64 lb, .slice a3 n3 c3] fp w1 from ⟨hO, HA.out, hv, hiv, rfl, HB1.out⟩)
  clear hO hb1 hv hiv
  go_wp2_with fail
  go_loopg [] (nds t + 1) (fun n wr => ∃ u vs fu, VtR w t u vs fu wr ∧ nds u ≤ n)
  case atStart => exact ⟨_, _, _, HR0.out, by omega⟩
  case round =>
    obtain ⟨u, vs, fu, hR, hw1⟩ := hrel
    obtain ⟨hB, hu, hcv, hiv, hbt, hbw⟩ := hR
    obtain ⟨kk, mm, uu, ty, fr, ll, ts, rfl⟩ := u.shape
    obtain ⟨y1, s1, b1, h1, y2, s2, b2, h2, b3, d3, f1, f2, f3, hv, hnm, ht1, ht2, rfl, hs⟩ := hu.parts
    generalize hln : ts.length = n3' at *
    obtain rfl : vs = #[.int .i64 kk, .string mm, .int .i64 uu, .int .i64 y1, .slice b1 s1 h1, .int .i64 y2, .slice b2 s2 h2, .int .i64 ll, .slice b3 n3' d3] := by injection hv
    obtain ⟨x0, x1, x2, x3, x4, x5, x6, x7, x8⟩ := cells9 hB
    have HU := hid hu
    have HBW := hid hbw
    have hok := (vldC_out hcv).1
    have HIJ := hid (fun (w' : World) (h : Below w.heap.size w w') => isInjection_any kk mm uu ty fr ll ts _ _ w' (hu.below h))
    have HPX := hid (fun (q : Int) (w' : World) (h : Below w.heap.size w w') => isProxy_any q kk mm uu ty fr ll ts _ _ w' (hu.below h))
    have HFM := hid (fun (w' : World) (h : Below w.heap.size w w') => implFormatCast _ _ _ w' (by have := vldC_sz hcv; omega) (HF.out.below h) ((HTAB.out.on h).here) (hu.below h))
    have HV := hid (show vtx (.mk kk mm uu ty fr ll ts) = if kk = 2 then Lib.decDigits uu.toNat else if kk = 3 then [84] else if kk = 4 then [70] else if kk = 10 ∨ proxB kk ty fr 5 = true then pairS else if injB kk ty fr = true then vtxL ts else funS by rw [vtx])
    have HIS := hid (show isV (.mk kk mm uu ty fr ll ts) = true from hiv)
    have H14I := hid (show injB kk ty fr = true → kk = 14 by intro h; simp only [injB, Bool.and_eq_true, beq_iff_eq] at h; exact h.1)
    cases hij : injB kk ty fr
    case true =>
      obtain rfl : kk = 14 := H14I.out hij
      obtain ⟨hkid, -, -, -⟩ := okN_kids hok
      have hl := kids_one (ts := ts) (by rw [hkid, hln]) (by omega)
      have hp5 : proxB 14 ty fr 5 = false := by
        simp only [injB, Bool.and_eq_true, beq_iff_eq] at hij
        cases hp : proxB 14 ty fr 5 with
        | false => rfl
        | true => have := (proxB_out hp).2.2; omega
      obtain rfl : n3' = 1 := by omega
      obtain ⟨b, o, j0, jn0, jm0, j1, i1, p1, d1, j2, i2, p2, d2, jl0, i3, p3, d3', g0, rfl, hblt, u0, u1, u2, u3, u4, u5, u6, u7, u8, hatk, -⟩ := sm_get (i := 0) hs (by omega)
      have hkv := kid_vldC hcv (i := 0) (by omega)
      have hki : isV (ts.getD 0 zT) = true := by
        have := HIS.out
        rw [isV, if_neg (by omega), if_neg (by omega), Bool.and_eq_true, isVL_one hl] at this
        exact this.2
      have hkt : vtx (ts.getD 0 zT) = vtx t := by
        rw [← hbt, HV.out, if_neg (by omega), if_neg (by omega), if_neg (by omega), if_neg (by rintro (h | h); omega; rw [hp5] at h; cases h), if_pos hij, vtxL_one hl]
      have hnd := nds_get (ts := ts) (i := 0) (by omega)
      simp only [nds] at hw1
      have r0 := (hbw.cell (p := ⟨b, o + 0 * 9, none⟩) hblt).trans u0
      have r1 := (hbw.cell (p := ⟨b, o + 0 * 9 + 1, none⟩) hblt).trans u1
      have r2 := (hbw.cell (p := ⟨b, o + 0 * 9 + 2, none⟩) hblt).trans u2
      have r3 := (hbw.cell (p := ⟨b, o + 0 * 9 + 3, none⟩) hblt).trans u3
      have r4 := (hbw.cell (p := ⟨b, o + 0 * 9 + 4, none⟩) hblt).trans u4
      have r5 := (hbw.cell (p := ⟨b, o + 0 * 9 + 5, none⟩) hblt).trans u5
      have r6 := (hbw.cell (p := ⟨b, o + 0 * 9 + 6, none⟩) hblt).trans u6
      have r7 := (hbw.cell (p := ⟨b, o + 0 * 9 + 7, none⟩) hblt).trans u7
      have r8 := (hbw.cell (p := ⟨b, o + 0 * 9 + 8, none⟩) hblt).trans u8
      simp only [Nat.zero_mul, Nat.add_zero] at r0 r1 r2 r3 r4 r5 r6 r7 r8
      have hblw : b < w.heap.size := hblt
      have hwr : w.heap.size < wr.heap.size := lt_of_block hB
      have HATK := hid hatk
      have HK := hid (And.intro hkv (And.intro hki hkt))
      have HND := hid (show nds (ts.getD 0 zT) < gk by omega)
      have HQ := hid (fun (w2 : World) (hb2 : Below wr.heap.size wr w2) => show VtR w t (ts.getD 0 zT) #[.int .i64 j0, .string jn0, .int .i64 jm0, .int .i64 j1, .slice p1 i1 d1, .int .i64 j2, .slice p2 i2 d2, .int .i64 jl0, .slice p3 i3 d3'] g0 (put w2 w.heap.size 0 [.int .i64 j0, .string jn0, .int .i64 jm0, .int .i64 j1, .slice p1 i1 d1, .int .i64 j2, .slice p2 i2 d2, .int .i64 jl0, .slice p3 i3 d3']) from
        ⟨(heap_put ((hb2.block _ hwr).trans hB)).trans (by simp only [putA, List.setIfInBounds_toArray, List.set]), hatk, hkv, hki, hkt, below_put (hbw.trans (hb2.mono hbw.size)) (Nat.le_refl _)⟩)
      have xz := fun (w2 : World) (hb2 : Below wr.heap.size wr w2) (o : Nat) => frozen_of_block (o := o) ((hb2.block _ hwr).trans hB)
      have HXZ := hid xz
      clear xz u0 u1 u2 u3 u4 u5 u6 u7 u8 hatk hs ht1 ht2 hB hbw hbt hcv hiv hok hkid hl hp5 hkv hki hkt hnd hw1 hu hv hln
      rw [hij] at HIJ
      go_wp2_with fail
      refine (HIJ.out _ HBW.out).mono ?_
      rintro e w2 ⟨rfl, hb2⟩
      have HN := hid (HQ.out w2 hb2)
      simp only [put, Nat.zero_add, Nat.reduceAdd] at HN
      have xz := HXZ.out w2 hb2
      have hwr2 : w.heap.size < w2.heap.size := Nat.lt_of_lt_of_le hwr hb2.size
      replace x0 := cell_keep x0 hb2
      replace x1 := cell_keep x1 hb2
      replace x2 := cell_keep x2 hb2
      replace x3 := cell_keep x3 hb2
      replace x4 := cell_keep x4 hb2
      replace x5 := cell_keep x5 hb2
      replace x6 := cell_keep x6 hb2
      replace x7 := cell_keep x7 hb2
      replace x8 := cell_keep x8 hb2
      replace r0 := cell_keep r0 hb2
      replace r1 := cell_keep r1 hb2
      replace r2 := cell_keep r2 hb2
      replace r3 := cell_keep r3 hb2
      replace r4 := cell_keep r4 hb2
      replace r5 := cell_keep r5 hb2
      replace r6 := cell_keep r6 hb2
      replace r7 := cell_keep r7 hb2
      replace r8 := cell_keep r8 hb2
      go_wp2_with fail
      go_roundg (nds (ts.getD 0 zT))
      case measure => exact HND.out
      case rel => exact ⟨_, _, _, HN.out, Nat.le_refl _⟩
    case false =>
    rw [hij] at HIJ HV
    have HVT := hid hbt
    have HFX := hid (fun h : kk = 2 ∨ kk = 3 ∨ kk = 4 => vtx_fmt hcv ⟨_, _, _, _, _, _, _, rfl, h⟩)
    have HKC := hid (show kk = 2 ∨ kk = 3 ∨ kk = 4 ∨ kk = 5 ∨ kk = 10 ∨ proxB kk ty fr 4 = true ∨ proxB kk ty fr 5 = true by
      have := HIS.out
      rw [isV] at this
      by_cases h : kk = 2 ∨ kk = 3 ∨ kk = 4 ∨ kk = 5
      · omega
      · by_cases h10 : kk = 10
        · omega
        · rw [if_neg h, if_neg h10, Bool.and_eq_true] at this
          have h2 := this.1
          simp only [staysB, hij, Bool.or_false, Bool.or_eq_true] at h2
          rcases h2 with h2 | h2
          · exact .inr (.inr (.inr (.inr (.inr (.inl h2)))))
          · exact .inr (.inr (.inr (.inr (.inr (.inr h2))))))
    have H144 := hid (fun (q : Int) => show proxB kk ty fr q = true → kk = 14 ∧ y2 = q from fun h => ⟨(proxB_out h).1, by rw [← ht2.kind]; exact (proxB_out h).2.1⟩)
    clear hs ht1 ht2 hB hbw hbt hcv hiv hok hw1 hu hv hln hij
    cases hp5 : proxB kk ty fr 5
    case true =>
      have HR := hid (show valS t = pairS by
        have := (H144.out 5 hp5).1
        rw [HE2.out, ← HVT.out, HV.out, if_neg (by omega), if_neg (by omega), if_neg (by omega), if_pos (.inr hp5)])
      have HP := hid (HPX.out 5)
      rw [hp5] at HP
      clear hp5
      go_wp2_with fail
      refine (HIJ.out _ HBW.out).mono ?_
      rintro e w2 ⟨rfl, hb2⟩
      replace x0 := cell_keep x0 hb2
      replace x1 := cell_keep x1 hb2
      replace x2 := cell_keep x2 hb2
      replace x3 := cell_keep x3 hb2
      replace x4 := cell_keep x4 hb2
      replace x5 := cell_keep x5 hb2
      replace x6 := cell_keep x6 hb2
      replace x7 := cell_keep x7 hb2
      replace x8 := cell_keep x8 hb2
      have HB2 := hid (below_trans HBW.out hb2)
      go_wp2_with fail
      refine (HP.out _ HB2.out).mono ?_
      rintro e w3 ⟨rfl, hb3⟩
      go_wp2_with fail
      go_ret
      exact ⟨ret_s (by rw [HR.out]; rfl), below_trans HB2.out hb3⟩
    case false =>
    have HP := hid (HPX.out 5)
    rw [hp5] at HP
    have HP4 := hid (HPX.out 4)
    cases hp4 : proxB kk ty fr 4
    case true =>
      have HR := hid (show valS t = funS by
        have := (H144.out 4 hp4).1
        rw [HE2.out, ← HVT.out, HV.out, if_neg (by omega), if_neg (by omega), if_neg (by omega), if_neg (by rintro (h | h); omega; rw [hp5] at h; cases h)]; rfl)
      rw [hp4] at HP4
      clear hp5 hp4
      go_wp2_with fail
      refine (HIJ.out _ HBW.out).mono ?_
      rintro e w2 ⟨rfl, hb2⟩
      replace x0 := cell_keep x0 hb2
      replace x1 := cell_keep x1 hb2
      replace x2 := cell_keep x2 hb2
      replace x3 := cell_keep x3 hb2
      replace x4 := cell_keep x4 hb2
      replace x5 := cell_keep x5 hb2
      replace x6 := cell_keep x6 hb2
      replace x7 := cell_keep x7 hb2
      replace x8 := cell_keep x8 hb2
      have HB2 := hid (below_trans HBW.out hb2)
      go_wp2_with fail
      refine (HP.out _ HB2.out).mono ?_
      rintro e w3 ⟨rfl, hb3⟩
      replace x0 := cell_keep x0 hb3
      replace x1 := cell_keep x1 hb3
      replace x2 := cell_keep x2 hb3
      replace x3 := cell_keep x3 hb3
      replace x4 := cell_keep x4 hb3
      replace x5 := cell_keep x5 hb3
      replace x6 := cell_keep x6 hb3
      replace x7 := cell_keep x7 hb3
      replace x8 := cell_keep x8 hb3
      have HB3 := hid (below_trans HB2.out hb3)
      go_wp2_with fail
      refine (HP4.out _ HB3.out).mono ?_
      rintro e w4 ⟨rfl, hb4⟩
      go_wp2_with fail
      go_ret
      exact ⟨ret_s (by rw [HR.out]; rfl), below_trans HB3.out hb4⟩
    case false =>
    rw [hp4] at HP4
    have hkc : kk = 2 ∨ kk = 3 ∨ kk = 4 ∨ kk = 5 ∨ kk = 10 := by
      rcases HKC.out with h | h | h | h | h | h | h
      · omega
      · omega
      · omega
      · omega
      · omega
      · rw [hp4] at h; cases h
      · rw [hp5] at h; cases h
    have HR := hid (show valS t = plT (.mk kk mm uu ty fr ll ts) by
      rw [HE2.out, ← HVT.out]
      rcases hkc with h | h | h | h | h
      · rw [← HFX.out (.inl h)]; subst h; rfl
      · rw [← HFX.out (.inr (.inl h))]; subst h; rfl
      · rw [← HFX.out (.inr (.inr h))]; subst h; rfl
      · rw [HV.out, if_neg (by omega), if_neg (by omega), if_neg (by omega), if_neg (by rintro (h | h); omega; rw [hp5] at h; cases h)]; subst h; rfl
      · rw [HV.out, if_neg (by omega), if_neg (by omega), if_neg (by omega), if_pos (.inl h)]; subst h; rfl)
    have HPT := hid (fun (w' : World) (h : Below w.heap.size w w') => plainText_any (.mk kk mm uu ty fr ll ts) _ _ w' (HU.out.below h) (fun w'' h2 => HFM.out w'' (below_trans h h2)))
    rw [← HR.out] at HPT
    obtain ⟨r, hr⟩ : ∃ r : ByteArray, r = ⟨(valS t).toArray⟩ := ⟨_, rfl⟩
    rw [← hr] at HPT
    have HRR := hid hr
    clear hr hp5 hp4 HFX HV HKC
    go_wp2_with fail
    refine (HIJ.out _ HBW.out).mono ?_
    rintro e w2 ⟨rfl, hb2⟩
    replace x0 := cell_keep x0 hb2
    replace x1 := cell_keep x1 hb2
    replace x2 := cell_keep x2 hb2
    replace x3 := cell_keep x3 hb2
    replace x4 := cell_keep x4 hb2
    replace x5 := cell_keep x5 hb2
    replace x6 := cell_keep x6 hb2
    replace x7 := cell_keep x7 hb2
    replace x8 := cell_keep x8 hb2
    have HB2 := hid (below_trans HBW.out hb2)
    go_wp2_with fail
    refine (HP.out _ HB2.out).mono ?_
    rintro e w3 ⟨rfl, hb3⟩
    replace x0 := cell_keep x0 hb3
    replace x1 := cell_keep x1 hb3
    replace x2 := cell_keep x2 hb3
    replace x3 := cell_keep x3 hb3
    replace x4 := cell_keep x4 hb3
    replace x5 := cell_keep x5 hb3
    replace x6 := cell_keep x6 hb3
    replace x7 := cell_keep x7 hb3
    replace x8 := cell_keep x8 hb3
    have HB3 := hid (below_trans HB2.out hb3)
    go_wp2_with fail
    refine (HP4.out _ HB3.out).mono ?_
    rintro e w4 ⟨rfl, hb4⟩
    replace x0 := cell_keep x0 hb4
    replace x1 := cell_keep x1 hb4
    replace x2 := cell_keep x2 hb4
    replace x3 := cell_keep x3 hb4
    replace x4 := cell_keep x4 hb4
    replace x5 := cell_keep x5 hb4
    replace x6 := cell_keep x6 hb4
    replace x7 := cell_keep x7 hb4
    replace x8 := cell_keep x8 hb4
    have HB4 := hid (below_trans HB3.out hb4)
    go_wp2_with fail
    refine (HPT.out _ HB4.out).mono ?_
    rintro e w5 ⟨rfl, hb5⟩
    go_wp2_with fail
    go_ret
    exact ⟨ret_s HRR.out, below_trans HB4.out hb5⟩
end Go.Proofs.YtgekfnodmgkdaaaDoor
