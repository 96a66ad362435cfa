/- The law FnCountNodes: it returns true and writes nothing that was there. -/
import Derived.Test.YtlkiiphnibideaaDoorDwCou
import Derived.Test.YtlkiiphnibideaaDoorNdC
import Derived.Test.YtlkiiphnibideaaDoorCnC
import Derived.Test.YtlkiiphnibideaaDoorTmP
namespace Go.Proofs.YtlkiiphnibideaaDoor
open Go.RowKit

theorem cntN_parts {k : Int} {nm : ByteArray} {num : Int} {ty fr : Ty} {lb : Int} {ts : List Tm} (h : vldM (.mk k nm num ty fr lb ts) = true) : cntN (.mk k nm num ty fr lb ts) = 1 + sumL cntN ts := by
  have hk := vld_kid h
  have h0 := h
  simp only [vldM, Bool.and_eq_true] at h0
  have h1 := h0.1
  rw [shpM] at h1
  simp only [Bool.and_eq_true, List.all_eq_true] at h1
  unfold cntN
  rw [if_pos h, cntD]
  congr 1
  exact sumL_congr fun t ht => by rw [if_pos (hk t ht), cntD_up 11 t (h1.2 t ht)]

theorem sumL_take9 {f : Tm → Int} {ts : List Tm} {j : Nat} (h : j < ts.length) : sumL f (ts.take (j + 1)) = sumL f (ts.take j) + f ts[j] := by
  rw [take_succM h]
  have : ∀ (l : List Tm) (x : Tm), sumL f (l ++ [x]) = sumL f l + f x := by
    intro l x
    induction l with
    | nil => simp [sumL]
    | cons y l ih => simp only [List.cons_append, sumL, ih]; omega
  exact this _ _

theorem cntN_bd (t : Tm) : 0 ≤ cntN t ∧ cntN t ≤ 30 := cntN_range t

theorem sumL_bd : ∀ (ts : List Tm), 0 ≤ sumL cntN ts ∧ sumL cntN ts ≤ 30 * (ts.length : Int)
  | [] => by simp [sumL]
  | t :: ts => by
    have h1 := cntN_bd t
    have h2 := sumL_bd ts
    simp only [sumL, List.length_cons]
    omega

set_option linter.unusedSimpArgs false in
set_option linter.unusedVariables false in
set_option maxRecDepth 100000 in
set_option maxHeartbeats 16000000 in
theorem lawDCnt (a00 : Option Addr) (n00 cap00 : Nat) (w : World) (hF : Forms w) (hB0 : BytA w a00 n00) (hn0 : n00 ≤ cap00) (hm0 : cap00 ≤ maxLen) :
    Calls Tryd.prog 9 #[.slice a00 n00 cap00] w fun e w' => e = .returned (.bool true) ∧ Below w.heap.size w w' := by
  by_cases hl0 : (n00 : Int) > 1048576
  · clear hB0
    go_enter Tryd.func9, Tryd.ntmps9
    go_wp2_with fail
    go_ret
    exact ⟨rfl, Below.refl _ _⟩
  have HD := hid (drawCountNodes_any a00 n00 cap00 w hB0 hn0 hm0)
  have HF := hid hF
  clear hB0 hF
  go_enter Tryd.func9, Tryd.ntmps9
  go_wp2_with fail
  refine HD.out.mono ?_
  rintro e z ⟨t, v, f, rfl, hts, hat, hfz, hbz⟩
  obtain ⟨k, nm, num, ty, fr, lb, ts, rfl⟩ := t.shape
  have hat1 := hat
  obtain ⟨k1, n1, a1, c1, k2, n2, a2, c2, a3, c3, f1, f2, f3, rfl, hnm, ht1, ht2, rfl, hs⟩ := hat.parts
  have hba : Below z.heap.size z (z.alloc (Obj.cells #[.int .i64 k, .string nm, .int .i64 num, .int .i64 k1, .slice a1 n1 c1, .int .i64 k2, .slice a2 n2 c2, .int .i64 lb, .slice a3 ts.length c3] 28)) := (Below.refl _ _).alloc (Nat.le_refl _) _
  have hbb := below_trans hbz hba
  have HBB := hid hbb
  have HX := hid (alloc_new z (Obj.cells #[.int .i64 k, .string nm, .int .i64 num, .int .i64 k1, .slice a1 n1 c1, .int .i64 k2, .slice a2 n2 c2, .int .i64 lb, .slice a3 ts.length c3] 28))
  have HIC := hid (fun (W : World) (h : Below (z.alloc (Obj.cells #[.int .i64 k, .string nm, .int .i64 num, .int .i64 k1, .slice a1 n1 c1, .int .i64 k2, .slice a2 n2 c2, .int .i64 lb, .slice a3 ts.length c3] 28)).heap.size (z.alloc (Obj.cells #[.int .i64 k, .string nm, .int .i64 num, .int .i64 k1, .slice a1 n1 c1, .int .i64 k2, .slice a2 n2 c2, .int .i64 lb, .slice a3 ts.length c3] 28)) W) => implCountNodes _ _ _ W ((HF.out.below hbb).below h) ((hat1.below hba).below h))
  have HSC := hid (fun (W : World) (h : Below (z.alloc (Obj.cells #[.int .i64 k, .string nm, .int .i64 num, .int .i64 k1, .slice a1 n1 c1, .int .i64 k2, .slice a2 n2 c2, .int .i64 lb, .slice a3 ts.length c3] 28)).heap.size (z.alloc (Obj.cells #[.int .i64 k, .string nm, .int .i64 num, .int .i64 k1, .slice a1 n1 c1, .int .i64 k2, .slice a2 n2 c2, .int .i64 lb, .slice a3 ts.length c3] 28)) W) => specCountNodes _ _ _ W (by omega) ((hat1.below hba).below h))
  have HTV := hid (fun (W : World) (h : Below (z.alloc (Obj.cells #[.int .i64 k, .string nm, .int .i64 num, .int .i64 k1, .slice a1 n1 c1, .int .i64 k2, .slice a2 n2 c2, .int .i64 lb, .slice a3 ts.length c3] 28)).heap.size (z.alloc (Obj.cells #[.int .i64 k, .string nm, .int .i64 num, .int .i64 k1, .slice a1 n1 c1, .int .i64 k2, .slice a2 n2 c2, .int .i64 lb, .slice a3 ts.length c3] 28)) W) => implTermValid _ _ _ W ((HF.out.below hbb).below h) ((hat1.below hba).below h))
  have HSM := hid (fun (W : World) (h : Below (z.alloc (Obj.cells #[.int .i64 k, .string nm, .int .i64 num, .int .i64 k1, .slice a1 n1 c1, .int .i64 k2, .slice a2 n2 c2, .int .i64 lb, .slice a3 ts.length c3] 28)).heap.size (z.alloc (Obj.cells #[.int .i64 k, .string nm, .int .i64 num, .int .i64 k1, .slice a1 n1 c1, .int .i64 k2, .slice a2 n2 c2, .int .i64 lb, .slice a3 ts.length c3] 28)) W) => (hs.below hba).below h)
  have HFW := hid (fun (W : World) (h : Below (z.alloc (Obj.cells #[.int .i64 k, .string nm, .int .i64 num, .int .i64 k1, .slice a1 n1 c1, .int .i64 k2, .slice a2 n2 c2, .int .i64 lb, .slice a3 ts.length c3] 28)).heap.size (z.alloc (Obj.cells #[.int .i64 k, .string nm, .int .i64 num, .int .i64 k1, .slice a1 n1 c1, .int .i64 k2, .slice a2 n2 c2, .int .i64 lb, .slice a3 ts.length c3] 28)) W) => (HF.out.below hbb).below h)
  have HCL := hid (fun (W : World) (h : Below (z.alloc (Obj.cells #[.int .i64 k, .string nm, .int .i64 num, .int .i64 k1, .slice a1 n1 c1, .int .i64 k2, .slice a2 n2 c2, .int .i64 lb, .slice a3 ts.length c3] 28)).heap.size (z.alloc (Obj.cells #[.int .i64 k, .string nm, .int .i64 num, .int .i64 k1, .slice a1 n1 c1, .int .i64 k2, .slice a2 n2 c2, .int .i64 lb, .slice a3 ts.length c3] 28)) W) => cells9 ((h.block _ (lt_of_block (alloc_new z (Obj.cells #[.int .i64 k, .string nm, .int .i64 num, .int .i64 k1, .slice a1 n1 c1, .int .i64 k2, .slice a2 n2 c2, .int .i64 lb, .slice a3 ts.length c3] 28)))).trans (alloc_new z (Obj.cells #[.int .i64 k, .string nm, .int .i64 num, .int .i64 k1, .slice a1 n1 c1, .int .i64 k2, .slice a2 n2 c2, .int .i64 lb, .slice a3 ts.length c3] 28))))
  have HTS := hid hts
  clear hat hat1 hfz hbz ht1 ht2 hs hba hbb hts hnm
  go_wp2_with fail
  refine (HIC.out _ (Below.refl _ _)).mono ?_
  rintro e w3 ⟨rfl, hb3⟩
  have HB3 := hid hb3
  obtain ⟨x0, x1, x2, x3, x4, x5, x6, x7, x8⟩ := HCL.out w3 hb3
  have HS3 := hid (HSC.out w3 hb3)
  have hrg := cntN_range (.mk k nm num ty fr lb ts)
  have HVN := hid (show vldM (.mk k nm num ty fr lb ts) = decide (0 < cntN (.mk k nm num ty fr lb ts)) from (cntN_pos _).symm)
  have HPT := hid (show vldM (.mk k nm num ty fr lb ts) = true → cntN (.mk k nm num ty fr lb ts) = 1 + sumL cntN ts from cntN_parts)
  have HRG := hid hrg
  clear hb3
  generalize cntN (.mk k nm num ty fr lb ts) = N at *
  go_wp2_with fail
  refine HS3.out.mono ?_
  rintro e w4 ⟨rfl, hb4⟩
  have HB4 := hid (below_trans HB3.out hb4)
  obtain ⟨y0, y1, y2, y3, y4, y5, y6, y7, y8⟩ := HCL.out w4 HB4.out
  have HS4 := hid (HSC.out w4 HB4.out)
  clear hb4 x0 x1 x2 x3 x4 x5 x6 x7 x8
  by_cases hN : N = 0
  · subst hN
    have hv0 : vldM (.mk k nm num ty fr lb ts) = false := by rw [HVN.out]; rfl
    have HTF := hid (fun (W : World) (h : Below (z.alloc (Obj.cells #[.int .i64 k, .string nm, .int .i64 num, .int .i64 k1, .slice a1 n1 c1, .int .i64 k2, .slice a2 n2 c2, .int .i64 lb, .slice a3 ts.length c3] 28)).heap.size (z.alloc (Obj.cells #[.int .i64 k, .string nm, .int .i64 num, .int .i64 k1, .slice a1 n1 c1, .int .i64 k2, .slice a2 n2 c2, .int .i64 lb, .slice a3 ts.length c3] 28)) W) => HTV.out W h)
    rw [hv0] at HTF
    clear hv0
    go_wp2_with fail
    refine HS4.out.mono ?_
    rintro e w5 ⟨rfl, hb5⟩
    have HB5 := hid (below_trans HB4.out hb5)
    obtain ⟨x0, x1, x2, x3, x4, x5, x6, x7, x8⟩ := HCL.out w5 HB5.out
    clear hb5 y0 y1 y2 y3 y4 y5 y6 y7 y8
    go_wp2_with fail
    refine (HTF.out w5 HB5.out).mono ?_
    rintro e w6 ⟨rfl, hb6⟩
    have HB6 := hid (below_trans HBB.out (below_trans HB5.out hb6))
    clear hb6
    go_wp2_with fail
    go_ret
    exact ⟨rfl, HB6.out⟩
  · have hN0 : (N == 0) = false := by simpa using hN
    have hv1 : vldM (.mk k nm num ty fr lb ts) = true := by rw [HVN.out]; have := HRG.out; simp; omega
    have HEQ := hid (HPT.out hv1)
    have hle : N ≤ 30 := hrg.2
    clear hv1 hN
    go_wp2_with fail
    go_loopw [5, 6] (fun n i wr => ∃ (j : Nat) (c : Int), j ≤ ts.length ∧ i = .int .i64 j ∧ n = .int .i64 c ∧ c = 1 + sumL cntN (ts.take j) ∧ Below (z.alloc (Obj.cells #[.int .i64 k, .string nm, .int .i64 num, .int .i64 k1, .slice a1 n1 c1, .int .i64 k2, .slice a2 n2 c2, .int .i64 lb, .slice a3 ts.length c3] 28)).heap.size (z.alloc (Obj.cells #[.int .i64 k, .string nm, .int .i64 num, .int .i64 k1, .slice a1 n1 c1, .int .i64 k2, .slice a2 n2 c2, .int .i64 lb, .slice a3 ts.length c3] 28)) wr) (fun _ i _ => ts.length - (intOf i).toNat)
    case atStart => exact ⟨0, 1, Nat.zero_le _, rfl, rfl, by simp [sumL], HB4.out⟩
    case round =>
      obtain ⟨j, c, hj, rfl, rfl, hcc, hbr⟩ := hrel
      have HC := hid hcc
      have HBR := hid hbr
      clear y0 y1 y2 y3 y4 y5 y6 y7 y8
      obtain ⟨x0, x1, x2, x3, x4, x5, x6, x7, x8⟩ := HCL.out wr hbr
      obtain ⟨aa, cap, hss, hc, hm, hget⟩ := (HSM.out wr hbr).open
      cases hss
      have HGET := hid hget
      have HFR := hid (HFW.out wr hbr)
      clear hget hbr hcc
      by_cases hlk : j < ts.length
      · obtain ⟨b, o, q0, q1, q2, q3, q4, q5, q6, q7, q8, q9, q10, q11, q12, q13, q14, fk, rfl, hblt, c0, c1', c2', c3', c4, c5, c6, c7, c8, hatk, hfk⟩ := HGET.out j hlk
        have HK := hid (implCountNodes _ _ _ _ HFR.out hatk)
        have hlk' : (j : Int) < (ts.length : Int) := by omega
        have hb1 := sumL_bd (ts.take j)
        have hb2 := cntN_bd ts[j]
        have hb3 : ((ts.take j).length : Int) ≤ 1048576 := by
          have h1 : szML ts + ts.length ≤ 1048576 := by have := HTS.out; simp only [Tm.sz] at this; omega
          rw [List.length_take]; omega
        have hsum : 0 ≤ c + cntN ts[j] ∧ c + cntN ts[j] ≤ 41943040 := by have := HC.out; omega
        have hc0 : 0 ≤ c ∧ c ≤ 41943040 := by have := HC.out; omega
        have HST := hid (show c + cntN ts[j] = 1 + sumL cntN (ts.take (j + 1)) by rw [sumL_take9 hlk, HC.out]; omega)
        clear hatk hfk hb1 hb3
        generalize cntN ts[j] = r at *
        go_wp2_with fail
        refine HK.out.mono ?_
        rintro e w6 ⟨rfl, hb6⟩
        have HB6 := hid (below_trans HBR.out hb6)
        clear hb6 c0 c1' c2' c3' c4 c5 c6 c7 c8 x0 x1 x2 x3 x4 x5 x6 x7 x8
        go_wp2_with fail
        exact ⟨⟨j + 1, c + r, by omega, by go_num, rfl, HST.out, HB6.out⟩, by simp [intOf]; omega⟩
      · obtain rfl : j = ts.length := by omega
        have hcN : c = N := by
          have h1 := HC.out
          rw [List.take_of_length_le (Nat.le_refl _)] at h1
          rw [h1, HEQ.out]
        have hlk' : ¬ ((ts.length : Int) < (ts.length : Int)) := by omega
        subst hcN
        have HB6 := hid (below_trans HBB.out HBR.out)
        go_wp2_with fail
        go_ret
        exact ⟨rfl, HB6.out⟩
end Go.Proofs.YtlkiiphnibideaaDoor
