/- ParseCoercion, of the specification: the whole. -/
import Derived.Test.YtgekfnodmgkdaaaPd5
import Derived.Test.YtgekfnodmgkdaaaPd6
namespace Go.Proofs.Ytgekfnodmgkdaaa
open Go.RowKit

set_option linter.unusedVariables false in
set_option linter.unusedSimpArgs false in
set_option maxRecDepth 100000 in
set_option maxHeartbeats 2000000 in
theorem specParseCoercion (s : ByteArray) (w : World) (hs : s.size ≤ 1048576) : Calls Try.prog 18 #[.string s] w (MadeKV w (pcT s) (pcOk s)) := by
  have hM0 : (w.alloc (Obj.cells #[.int .i64 0, .int .i64 0, .int .i64 0, .slice none 0 0] 44)).heap[w.heap.size]? = some (Obj.cells #[.int .i64 0, .int .i64 0, .int .i64 0, .slice none 0 0] 44) := alloc_new w _
  have hB0 : Below w.heap.size w (w.alloc (Obj.cells #[.int .i64 0, .int .i64 0, .int .i64 0, .slice none 0 0] 44)) := (Below.refl _ _).alloc (Nat.le_refl _) _
  have HM := hid hM0
  have HB := hid hB0
  clear hM0 hB0
  go_enter Try.func18, Try.ntmps18
  go_wp2_with fail
  refine (l6Parse_any 9 9 s 0 _ (by omega) rfl (Nat.zero_le _) hs).mono ?_
  rintro e w1 ⟨c, k, g, l, a, m, cap, fp, p, rfl, hat, hf, hp, hu, hb1⟩
  have hal : Below w1.heap.size w1 (w1.alloc (Obj.cells #[.int .i64 k, .int .i64 g, .int .i64 l, .slice a m cap] 44)) := (Below.refl _ _).alloc (Nat.le_refl _) _
  have hb1' := below_trans hb1 hal
  have hM1 := (hb1'.block _ (lt_of_block HM.out)).trans HM.out
  have hB1 := below_trans HB.out hb1'
  have HM1 := hid hM1
  have HB1 := hid hB1
  have HU := hid hu
  have HAT := hid (hat.below hal)
  have HF := hid (hf.below hal)
  have HBX := hid (alloc_new w1 (Obj.cells #[.int .i64 k, .int .i64 g, .int .i64 l, .slice a m cap] 44))
  have HSZ := hid (show w.heap.size < (w.alloc (Obj.cells #[.int .i64 0, .int .i64 0, .int .i64 0, .slice none 0 0] 44)).heap.size by simp)
  have HYES := hid (show pcOk s = true → vldK (pcT s) = true ∧ c = pcT s ∧ p = (s.size : Int) ∧ s = ⟨(cx 9 (pcT s)).toArray⟩ from fun h => by
    obtain ⟨h1, h2, h3⟩ := (pc_iff s (pcT s)).1 ⟨h, rfl⟩
    obtain ⟨h4, h5⟩ := hu _ h1 h2
    exact ⟨h1, h4, by omega, txt_whole.1 ⟨h2, h3⟩⟩)
  have HBK := hid (show vldK c = true → s = ⟨(cx 9 c).toArray⟩ → pcOk s = true ∧ pcT s = c from fun h1 h2 => (pc_iff s c).2 ⟨h1, (txt_whole.2 h2).1, (txt_whole.2 h2).2⟩)
  clear hat hf hu hb1 hb1' hM1 hB1 hal hp
  by_cases hz : s.size = 0
  · have HNO := hid (show pcOk s = false by
      cases h : pcOk s with
      | false => rfl
      | true =>
        obtain ⟨h1, _, _, h4⟩ := HYES.out h
        have h6 : 1 ≤ (cx 9 (pcT s)).length := cx_pos (d := 8) h1
        have h5 := (txt_whole.2 h4).2
        omega)
    have z0 : s = ⟨#[]⟩ := by
      apply ByteArray.ext
      exact Array.eq_empty_of_size_eq_zero hz
    have z1 : (s.toList == []) = true := by rw [z0, Lib.toList_data]; rfl
    have z2 : s.toList.isEmpty = true := by rw [z0, Lib.toList_data]; rfl
    have hM9 := HM1.out
    have hB9 := HB1.out
    clear hz z0
    have r0 := cell_of_block (o := 0) hM9
    have r1 := cell_of_block (o := 1) hM9
    have r2 := cell_of_block (o := 2) hM9
    have r3 := cell_of_block (o := 3) hM9
    simp at r0 r1 r2 r3
    have rz := fun o => frozen_of_block (o := o) hM9
    have rl := lt_of_block hM9
    obtain ⟨g2, g3⟩ := rp_put hM9 hB9 (.int .i64 0) (.int .i64 0) (.int .i64 0) (.slice none 0 0)
    have q5 := cell_of_block (o := 0) g3
    have q6 := cell_of_block (o := 1) g3
    have q7 := cell_of_block (o := 2) g3
    have q8 := cell_of_block (o := 3) g3
    simp at q5 q6 q7 q8
    have HG := hid (madeKV_zero g2)
    clear g2 g3 hM9 hB9
    go_wp2_with fail
    refine bodyPost_ret (v := .tuple #[.agg #[.int .i64 0, .int .i64 0, .int .i64 0, .slice none 0 0], .bool false]) (by simp [results, Try.results18, go_sem, q5, q6, q7, q8]) rfl ?_
    rw [HNO.out, pc_false HNO.out]
    exact HG.out
  have z1 : (s.toList == []) = false := by
    rw [beq_eq_false_iff_ne]
    intro h
    apply hz
    have : s.toList.length = s.size := by rw [Lib.toList_data]; exact Array.length_toList
    rw [h] at this
    simpa using this.symm
  have z2 : s.toList.isEmpty = false := by
    cases h : s.toList.isEmpty with
    | false => rfl
    | true =>
      rw [List.isEmpty_iff] at h
      rw [h] at z1
      cases z1
  by_cases hp : p = (s.size : Int)
  case neg =>
    have HNO := hid (show pcOk s = false by
      cases h : pcOk s with
      | false => rfl
      | true => exact absurd (HYES.out h).2.2.1 hp)
    have p1 : (p != (s.size : Int)) = true := by rw [bne_iff_ne]; exact hp
    have p2 : (p == (s.size : Int)) = false := by rw [beq_eq_false_iff_ne]; exact hp
    have hM9 := HM1.out
    have hB9 := HB1.out
    clear hp hz
    have r0 := cell_of_block (o := 0) hM9
    have r1 := cell_of_block (o := 1) hM9
    have r2 := cell_of_block (o := 2) hM9
    have r3 := cell_of_block (o := 3) hM9
    simp at r0 r1 r2 r3
    have rz := fun o => frozen_of_block (o := o) hM9
    have rl := lt_of_block hM9
    obtain ⟨g2, g3⟩ := rp_put hM9 hB9 (.int .i64 0) (.int .i64 0) (.int .i64 0) (.slice none 0 0)
    have q5 := cell_of_block (o := 0) g3
    have q6 := cell_of_block (o := 1) g3
    have q7 := cell_of_block (o := 2) g3
    have q8 := cell_of_block (o := 3) g3
    simp at q5 q6 q7 q8
    have HG := hid (madeKV_zero g2)
    clear g2 g3 hM9 hB9
    go_wp2_with fail
    refine bodyPost_ret (v := .tuple #[.agg #[.int .i64 0, .int .i64 0, .int .i64 0, .slice none 0 0], .bool false]) (by simp [results, Try.results18, go_sem, q5, q6, q7, q8]) rfl ?_
    rw [HNO.out, pc_false HNO.out]
    exact HG.out
  subst hp
  have y0 := cell_of_block (o := 0) HBX.out
  have y1 := cell_of_block (o := 1) HBX.out
  have y2 := cell_of_block (o := 2) HBX.out
  have y3 := cell_of_block (o := 3) HBX.out
  simp at y0 y1 y2 y3
  have HFC := hid (specFormatCoercion c _ _ _ HAT.out)
  have HFV := hid (show fcV c = if vldK c then cx 9 c else [] from rfl)
  generalize hS : fcV c = S at *
  clear hS
  go_wp2_with fail
  refine HFC.out.mono ?_
  rintro e w2 ⟨rfl, hb2⟩
  clear y0 y1 y2 y3
  have hE2 := (hb2.block _ (lt_of_block HBX.out)).trans HBX.out
  have hM9 := (hb2.block _ (lt_of_block HM1.out)).trans HM1.out
  have hB9 := HB1.out.trans (hb2.mono HB1.out.size)
  have y0 := cell_of_block (o := 0) hE2
  have y1 := cell_of_block (o := 1) hE2
  have y2 := cell_of_block (o := 2) hE2
  have y3 := cell_of_block (o := 3) hE2
  simp at y0 y1 y2 y3
  by_cases hq : (⟨S.toArray⟩ : ByteArray) = s
  case neg =>
    have HNO := hid (show pcOk s = false by
      cases h : pcOk s with
      | false => rfl
      | true =>
        obtain ⟨h1, h2, _, h4⟩ := HYES.out h
        rw [← h2] at h1 h4
        rw [h1, if_pos rfl] at HFV
        exact absurd (by rw [HFV.out]; exact h4.symm) hq)
    have f1 : ((⟨S.toArray⟩ : ByteArray).toList == s.toList) = false := nmList_neP hq
    have f2 : ((⟨S.toArray⟩ : ByteArray).toList != s.toList) = true := by rw [bne, f1]; rfl
    have fe : (⟨S.toArray⟩ : ByteArray).toList = S := (Lib.toList_data _).trans rfl
    have f3 : (S == s.toList) = false := by have h := f1; rw [fe] at h; exact h
    have f4 : (S != s.toList) = true := by rw [bne, f3]; rfl
    clear hq hE2 hb2 hz
    have r0 := cell_of_block (o := 0) hM9
    have r1 := cell_of_block (o := 1) hM9
    have r2 := cell_of_block (o := 2) hM9
    have r3 := cell_of_block (o := 3) hM9
    simp at r0 r1 r2 r3
    have rz := fun o => frozen_of_block (o := o) hM9
    have rl := lt_of_block hM9
    obtain ⟨g2, g3⟩ := rp_put hM9 hB9 (.int .i64 0) (.int .i64 0) (.int .i64 0) (.slice none 0 0)
    have q5 := cell_of_block (o := 0) g3
    have q6 := cell_of_block (o := 1) g3
    have q7 := cell_of_block (o := 2) g3
    have q8 := cell_of_block (o := 3) g3
    simp at q5 q6 q7 q8
    have HG := hid (madeKV_zero g2)
    clear g2 g3 hM9 hB9
    go_wp2_with fail
    refine bodyPost_ret (v := .tuple #[.agg #[.int .i64 0, .int .i64 0, .int .i64 0, .slice none 0 0], .bool false]) (by simp [results, Try.results18, go_sem, q5, q6, q7, q8]) rfl ?_
    rw [HNO.out, pc_false HNO.out]
    exact HG.out
  have f1 : ((⟨S.toArray⟩ : ByteArray).toList == s.toList) = true := by rw [hq]; simp
  have f2 : ((⟨S.toArray⟩ : ByteArray).toList != s.toList) = false := by rw [bne, f1]; rfl
  have fe : (⟨S.toArray⟩ : ByteArray).toList = S := (Lib.toList_data _).trans rfl
  have f3 : (S == s.toList) = true := by have h := f1; rw [fe] at h; exact h
  have f4 : (S != s.toList) = false := by rw [bne, f3]; rfl
  have HR := hid (show pcOk s = true ∧ pcT s = c by
    have hv : vldK c = true := by
      cases h : vldK c with
      | true => rfl
      | false =>
        exfalso
        apply hz
        have h2 := HFV.out
        rw [h, if_neg (by decide)] at h2
        rw [← hq, h2]
        rfl
    refine HBK.out hv ?_
    have h2 := HFV.out
    rw [hv, if_pos rfl] at h2
    rw [← hq, h2])
  have hat9 := HAT.out.below hb2
  have hf9 := HF.out.below hb2
  have r0 := cell_of_block (o := 0) hM9
  have r1 := cell_of_block (o := 1) hM9
  have r2 := cell_of_block (o := 2) hM9
  have r3 := cell_of_block (o := 3) hM9
  simp at r0 r1 r2 r3
  have rz := fun o => frozen_of_block (o := o) hM9
  have rl := lt_of_block hM9
  obtain ⟨g2, g3, g4, g5⟩ := rp_fin hM9 hB9 hat9 hf9 HSZ.out
  have q5 := cell_of_block (o := 0) g3
  have q6 := cell_of_block (o := 1) g3
  have q7 := cell_of_block (o := 2) g3
  have q8 := cell_of_block (o := 3) g3
  simp at q5 q6 q7 q8
  have HG := hid (And.intro g2 (And.intro g4 g5))
  clear g2 g3 g4 g5 hM9 hB9 hat9 hf9 hq hE2 hb2 hz
  go_wp2_with fail
  refine bodyPost_ret (v := .tuple #[.agg #[.int .i64 k, .int .i64 g, .int .i64 l, .slice a m cap], .bool true]) (by simp [results, Try.results18, go_sem, q5, q6, q7, q8]) rfl ?_
  rw [HR.out.1, HR.out.2]
  exact ⟨k, g, l, a, m, cap, fp, rfl, HG.out.2.1, HG.out.2.2, HG.out.1⟩
end Go.Proofs.Ytgekfnodmgkdaaa
