/- The law FnTermParts: it returns true and writes nothing that was there. -/
import Derived.Test.YtlkiiphnibideaaDoorDnV
import Derived.Test.YtlkiiphnibideaaDoorNdW
import Derived.Test.YtlkiiphnibideaaDoorCnM
import Derived.Deep.RegionHeld3
namespace Go.Proofs.YtlkiiphnibideaaDoor
open Go.RowKit

theorem shpM_up : ∀ (d : Nat) (t : Tm), shpM d t = true → shpM (d + 1) t = true
  | 0, _, h => by simp [shpM] at h
  | d + 1, .mk k nm num ty fr lb ts, h => by
    rw [shpM] at h ⊢
    simp only [Bool.and_eq_true, List.all_eq_true] at h ⊢
    exact ⟨h.1, fun t ht => shpM_up d t (h.2 t ht)⟩

theorem sumL_congr {f g : Tm → Int} : ∀ {ts : List Tm}, (∀ t ∈ ts, f t = g t) → sumL f ts = sumL g ts
  | [], _ => rfl
  | t :: ts, h => by simp only [sumL]; rw [h t (by simp), sumL_congr (fun u hu => h u (by simp [hu]))]

theorem cntD_up : ∀ (d : Nat) (t : Tm), shpM d t = true → cntD (d + 1) t = cntD d t
  | 0, _, h => by simp [shpM] at h
  | d + 1, .mk k nm num ty fr lb ts, h => by
    rw [shpM] at h
    simp only [Bool.and_eq_true, List.all_eq_true] at h
    rw [cntD, cntD, sumL_congr (fun t ht => cntD_up d t (h.2 t ht))]

theorem cnt_kid {d : Nat} : ∀ {ts : List Tm} {t : Tm}, t ∈ ts → cntD d t ≤ sumL (cntD d) ts
  | u :: us, t, h => by
    have h0 := sumL_nonneg d us
    have h1 := cntD_pos d u
    simp only [sumL]
    rcases List.mem_cons.1 h with rfl | h
    · omega
    · have := cnt_kid (d := d) h
      omega

/-- The operands of a valid term are valid. -/
theorem vld_kid {k : Int} {nm : ByteArray} {num : Int} {ty fr : Ty} {lb : Int} {ts : List Tm} (h : vldM (.mk k nm num ty fr lb ts) = true) : ∀ t ∈ ts, vldM t = true := fun t ht => by
  simp only [vldM, Bool.and_eq_true, decide_eq_true_eq] at h ⊢
  obtain ⟨h1, h2⟩ := h
  rw [shpM] at h1
  simp only [Bool.and_eq_true, List.all_eq_true] at h1
  have hs := h1.2 t ht
  rw [cntD] at h2
  have hc := cnt_kid (d := 11) ht
  exact ⟨shpM_up 11 t hs, by rw [cntD_up 11 t hs]; omega⟩

/-- With a label it is not valid. -/
theorem vld_lab {k : Int} {nm : ByteArray} {num : Int} {ty fr : Ty} {lb : Int} {ts : List Tm} (h : vldM (.mk k nm num ty fr lb ts) = true) : vldM (.mk k nm num ty (.mk 0 []) 1 ts) = false := by
  simp only [vldM, Bool.and_eq_true, decide_eq_true_eq] at h
  have h1 := h.1
  rw [shpM] at h1
  simp only [Bool.and_eq_true, bne_iff_ne] at h1
  have h14 : (k == 14) = false := by rw [beq_eq_false_iff_ne]; exact h1.1.1.2
  have : shpM 12 (.mk k nm num ty (.mk 0 []) 1 ts) = false := by
    rw [shpM]
    simp [ownM, h14]
  simp [vldM, this]

set_option linter.unusedSimpArgs false in
set_option linter.unusedVariables false in
set_option maxRecDepth 100000 in
set_option maxHeartbeats 16000000 in
theorem lawDTmP (a00 : Option Addr) (n00 cap00 : Nat) (w : World) (hF : Forms w) (hB0 : BytA w a00 n00) (hn0 : n00 ≤ cap00) (hm0 : cap00 ≤ maxLen) :
    Calls Tryd.prog 11 #[.slice a00 n00 cap00] w fun e w' => e = .returned (.bool true) ∧ Below w.heap.size w w' := by
  by_cases hl0 : (n00 : Int) > 1048576
  · clear hB0
    go_enter Tryd.func11, Tryd.ntmps11
    go_wp2_with fail
    go_ret
    exact ⟨rfl, Below.refl _ _⟩
  have HD := hid (drawTermValid_any a00 n00 cap00 w hB0 hn0 hm0)
  have HF := hid hF
  clear hB0 hF
  go_enter Tryd.func11, Tryd.ntmps11
  go_wp2_with fail
  refine HD.out.mono ?_
  rintro e z ⟨t, v, f, rfl, hts, hat, hfz, hbz⟩
  obtain ⟨k, nm, num, ty, fr, lb, ts, rfl⟩ := t.shape
  have hat1 := hat
  obtain ⟨k1, n1, a1, c1, k2, n2, a2, c2, a3, c3, f1, f2, f3, rfl, hnm, ht1, ht2, rfl, hs⟩ := hat.parts
  have hba : Below z.heap.size z (z.alloc (Obj.cells #[.int .i64 k, .string nm, .int .i64 num, .int .i64 k1, .slice a1 n1 c1, .int .i64 k2, .slice a2 n2 c2, .int .i64 lb, .slice a3 ts.length c3] 28)) := (Below.refl _ _).alloc (Nat.le_refl _) _
  have hbb := below_trans hbz hba
  have HBB := hid hbb
  have HFB := hid (HF.out.below hbb)
  have HAT := hid (hat1.below hba)
  have HT1 := hid (ht1.below hba)
  have HSM := hid (hs.below hba)
  have HBX := hid (alloc_new z (Obj.cells #[.int .i64 k, .string nm, .int .i64 num, .int .i64 k1, .slice a1 n1 c1, .int .i64 k2, .slice a2 n2 c2, .int .i64 lb, .slice a3 ts.length c3] 28))
  have HTS := hid hts
  have HNM := hid hnm
  have HV := hid (implTermValid _ _ _ _ HFB.out HAT.out)
  have hsz : (z.alloc (Obj.cells #[.int .i64 k, .string nm, .int .i64 num, .int .i64 k1, .slice a1 n1 c1, .int .i64 k2, .slice a2 n2 c2, .int .i64 lb, .slice a3 ts.length c3] 28)).heap.size = z.heap.size + 1 := by simp
  clear hat hat1 hfz hbz ht1 ht2 hs hba hbb hts hnm
  go_wp2_with fail
  refine HV.out.mono ?_
  rintro e w3 ⟨rfl, hb3⟩
  have hE3 := (hb3.block _ (by omega)).trans HBX.out
  obtain ⟨x0, x1, x2, x3, x4, x5, x6, x7, x8⟩ := cells9 hE3
  have HE3 := hid hE3
  have HB3 := hid (below_trans HBB.out hb3)
  have HF3 := hid (HFB.out.below hb3)
  have HAT3 := hid (HAT.out.below hb3)
  have HT3 := hid (HT1.out.below hb3)
  have HSM3 := hid (HSM.out.below hb3)
  have HSV := hid (specTermValid _ _ _ _ (by have := HTS.out; omega) HAT3.out)
  clear hb3 hE3
  cases hv : vldM (.mk k nm num ty fr lb ts) with
  | false =>
    rw [hv] at HSV
    have HVF := hid hv
    clear hv
    go_wp2_with fail
    refine HSV.out.mono ?_
    rintro e w4 ⟨rfl, hb4⟩
    have hE4 := (hb4.block _ (lt_of_block HE3.out)).trans HE3.out
    obtain ⟨y0, y1, y2, y3, y4, y5, y6, y7, y8⟩ := cells9 hE4
    have HSV2 := hid (specTermValid _ _ _ _ (by have := HTS.out; omega) (HAT3.out.below hb4))
    have HB4 := hid (below_trans HB3.out hb4)
    rw [HVF.out] at HSV2
    clear hb4 hE4 x0 x1 x2 x3 x4 x5 x6 x7 x8
    go_wp2_with fail
    refine HSV2.out.mono ?_
    rintro e w5 ⟨rfl, hb5⟩
    have HB5 := hid (below_trans HB4.out hb5)
    clear hb5
    go_wp2_with fail
    go_ret
    exact ⟨rfl, HB5.out⟩
  | true =>
    rw [hv] at HSV
    have HVT := hid hv
    clear hv
    go_wp2_with fail
    refine HSV.out.mono ?_
    rintro e w4 ⟨rfl, hb4⟩
    have HE4 := hid ((hb4.block _ (lt_of_block HE3.out)).trans HE3.out)
    have HB4 := hid (below_trans HB3.out hb4)
    have HF4 := hid (HF3.out.below hb4)
    have HT4 := hid (HT3.out.below hb4)
    have HSM4 := hid (HSM3.out.below hb4)
    clear hb4 x0 x1 x2 x3 x4 x5 x6 x7 x8
    go_wp2_with fail
    go_loopw [5] (fun i wr => ∃ j : Nat, j ≤ ts.length ∧ i = .int .i64 j ∧ Below w4.heap.size w4 wr) (fun i _ => ts.length - (intOf i).toNat)
    case atStart => exact ⟨0, Nat.zero_le _, rfl, Below.refl _ _⟩
    case round =>
      obtain ⟨j, hj, rfl, hbr⟩ := hrel
      have hEr := (hbr.block _ (lt_of_block HE4.out)).trans HE4.out
      obtain ⟨x0, x1, x2, x3, x4, x5, x6, x7, x8⟩ := cells9 hEr
      obtain ⟨aa, cap, hss, hc, hm, hget⟩ := (HSM4.out.below hbr).open
      cases hss
      have HGET := hid hget
      have HBR := hid hbr
      have HB5 := hid (below_trans HB4.out hbr)
      have HF5 := hid (HF4.out.below hbr)
      have HT5 := hid (HT4.out.below hbr)
      have HSM5 := hid (HSM4.out.below hbr)
      clear hget hbr hEr
      by_cases hlk : j < ts.length
      · obtain ⟨b, o, q0, q1, q2, q3, q4, q5, q6, q7, q8, q9, q10, q11, q12, q13, q14, fk, rfl, hblt, c0, c1', c2', c3', c4, c5, c6, c7, c8, hatk, hfk⟩ := HGET.out j hlk
        have HK := hid (implTermValid _ _ _ _ HF5.out hatk)
        rw [vld_kid HVT.out _ (List.getElem_mem hlk)] at HK
        have hlk' : (j : Int) < (ts.length : Int) := by omega
        clear hatk hfk
        go_wp2_with fail
        refine HK.out.mono ?_
        rintro e w6 ⟨rfl, hb6⟩
        have HB6 := hid (below_trans HBR.out hb6)
        clear hb6 c0 c1' c2' c3' c4 c5 c6 c7 c8 x0 x1 x2 x3 x4 x5 x6 x7 x8
        go_wp2_with fail
        exact ⟨⟨j + 1, by omega, by go_num, HB6.out⟩, by simp [intOf]; omega⟩
      · obtain rfl : j = ts.length := by omega
        have HL := hid (implTermValid (.mk k nm num ty (.mk 0 []) 1 ts) (.agg #[.int .i64 k, .string nm, .int .i64 num, .int .i64 k1, .slice a1 n1 c1, .int .i64 0, .slice none 0 0, .int .i64 1, .slice a3 ts.length c3]) _ _ HF5.out (Tm.at_mk.2 ⟨_, _, _, _, _, f1, [], f3, rfl, HNM.out, HT5.out, Ty.at_mk.2 ⟨_, rfl, .inl ⟨rfl, rfl, _, _, rfl⟩⟩, rfl, HSM5.out⟩))
        rw [vld_lab HVT.out] at HL
        have hlk' : ¬ ((ts.length : Int) < (ts.length : Int)) := by omega
        go_wp2_with fail
        refine HL.out.mono ?_
        rintro e w6 ⟨rfl, hb6⟩
        have HB6 := hid (below_trans HB5.out hb6)
        clear hb6
        go_wp2_with fail
        go_ret
        exact ⟨rfl, HB6.out⟩
end Go.Proofs.YtlkiiphnibideaaDoor
