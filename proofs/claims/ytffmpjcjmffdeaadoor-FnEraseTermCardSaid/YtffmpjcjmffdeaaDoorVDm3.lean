/- Draws of terms: l2Closed, l2Term. -/
import Derived.Test.YtffmpjcjmffdeaaDoorVDm2
import Derived.Test.YtffmpjcjmffdeaaDoorVG5
namespace Go.Proofs.YtffmpjcjmffdeaaDoor
open Go.RowKit

set_option maxRecDepth 100000 in
set_option maxHeartbeats 8000000 in
theorem l2Closed_any (M q : Nat) (w : World) (hR0 : RdAt M q w) (hq : q + 50000 ≤ 1000000) :
    Calls Tryd.prog 164 #[.pointer (some ⟨M, 0, none⟩)] w (DrawM M (q + 45000) 41000 w) := by
  have hMw := hR0.lt
  have hb0 : Below w.heap.size w (w.alloc (Obj.cells #[.int .i64 0, .string ⟨#[]⟩, .int .i64 0, .int .i64 0, .slice none 0 0, .int .i64 0, .slice none 0 0, .int .i64 0, .slice none 0 0] 35)) := (Below.refl _ _).alloc (Nat.le_refl _) _
  have HR0 := hid (hR0.rw hb0)
  have HW0 := hid (Rw.of_below hb0 hMw)
  have HE0 := hid (alloc_new w (Obj.cells #[.int .i64 0, .string ⟨#[]⟩, .int .i64 0, .int .i64 0, .slice none 0 0, .int .i64 0, .slice none 0 0, .int .i64 0, .slice none 0 0] 35))
  have hsz0 : (w.alloc (Obj.cells #[.int .i64 0, .string ⟨#[]⟩, .int .i64 0, .int .i64 0, .slice none 0 0, .int .i64 0, .slice none 0 0, .int .i64 0, .slice none 0 0] 35)).heap.size = w.heap.size + 1 := by simp
  clear hR0 hb0
  go_enter Tryd.func164, Tryd.ntmps164
  have hal : Below (w.alloc (Obj.cells #[.int .i64 0, .string ⟨#[]⟩, .int .i64 0, .int .i64 0, .slice none 0 0, .int .i64 0, .slice none 0 0, .int .i64 0, .slice none 0 0] 35)).heap.size (w.alloc (Obj.cells #[.int .i64 0, .string ⟨#[]⟩, .int .i64 0, .int .i64 0, .slice none 0 0, .int .i64 0, .slice none 0 0, .int .i64 0, .slice none 0 0] 35)) ((w.alloc (Obj.cells #[.int .i64 0, .string ⟨#[]⟩, .int .i64 0, .int .i64 0, .slice none 0 0, .int .i64 0, .slice none 0 0, .int .i64 0, .slice none 0 0] 35)).alloc (Obj.cells #[.int .i64 4, .int .i64 3, .int .i64 5, .int .i64 4, .int .i64 2] 3)) := (Below.refl _ _).alloc (Nat.le_refl _) _
  have hER := alloc_new (w.alloc (Obj.cells #[.int .i64 0, .string ⟨#[]⟩, .int .i64 0, .int .i64 0, .slice none 0 0, .int .i64 0, .slice none 0 0, .int .i64 0, .slice none 0 0] 35)) (Obj.cells #[.int .i64 4, .int .i64 3, .int .i64 5, .int .i64 4, .int .i64 2] 3)
  rw [hsz0] at hER
  have hsx := lt_of_block HE0.out
  have HN2 := hid (num_any M (q) (w.heap.size + 1) [4, 3, 5, 4, 2] _ (HR0.out.rw hal) (by omega) (by omega) (fun j hj => by
    rw [cell_of_block hER]
    have : j = 0 ∨ j = 1 ∨ j = 2 ∨ j = 3 ∨ j = 4 := by simp at hj; omega
    rcases this with rfl | rfl | rfl | rfl | rfl <;> rfl) (by simp) (by simp))
  have HWY := hid (HW0.out.trans (Rw.of_below hal HR0.out.lt))
  have HEY := hid ((hal.block _ hsx).trans HE0.out)
  clear hal hER
  go_wp2_with fail
  refine HN2.out.mono ?_
  rintro e wy ⟨d0, rfl, hd0, hRy, hWy⟩
  obtain ⟨dd, rfl, hd5⟩ : ∃ dd : Nat, d0 = dd ∧ dd ≤ 5 := by
    simp only [List.mem_cons, List.not_mem_nil, or_false] at hd0
    exact ⟨d0.toNat, by omega, by omega⟩
  have h1024 : 4 ^ dd ≤ 1024 := by
    have : dd = 0 ∨ dd = 1 ∨ dd = 2 ∨ dd = 3 ∨ dd = 4 ∨ dd = 5 := by omega
    rcases this with rfl | rfl | rfl | rfl | rfl | rfl <;> decide
  have hls : (⟨#[]⟩ : ByteArray).size ≤ 2 := by decide
  have HD := hid (l2Draw_any dd hd5 M (q + 1) ⟨#[]⟩ wy hRy (by omega) (by omega))
  have HWZ := hid (HWY.out.trans hWy)
  have HEZ := hid (hWy.block HEY.out (by omega))
  have hLY := hRy.lt
  clear hd0 hRy hWy hls
  go_wp2_with fail
  refine HD.out.mono ?_
  rintro e wz ⟨t, vt, ft, rfl, hts, hat, hft, hRz, hWz⟩
  obtain ⟨r0', r1', r2', r3', r4', r5', r6', r7', r8', r9', r10', r11', r12', r13', r14', rfl⟩ := hat.agg
  have hez := hWz.block HEZ.out (by omega)
  have hsz := lt_of_block hez
  have hbB : Below wz.heap.size wz (wz.alloc (Obj.cells #[.int .i64 r0', .string r1', .int .i64 r2', .int .i64 r3', .slice r5' r4' r6', .int .i64 r7', .slice r9' r8' r10', .int .i64 r11', .slice r13' r12' r14'] 35)) := (Below.refl _ _).alloc (Nat.le_refl _) _
  have hEB := alloc_new wz (Obj.cells #[.int .i64 r0', .string r1', .int .i64 r2', .int .i64 r3', .slice r5' r4' r6', .int .i64 r7', .slice r9' r8' r10', .int .i64 r11', .slice r13' r12' r14'] 35)
  have hey := lt_of_block HEZ.out
  have HFT := hid (hft.below hbB)
  have HAT := hid (hat.below hbB)
  have HRB := hid (hRz.rw hbB)
  have HWB := hid ((HWZ.out.trans hWz).trans (Rw.of_below hbB hRz.lt))
  have HEB := hid hEB
  have HER := hid ((hbB.block _ hsz).trans hez)
  have hszB : (wz.alloc (Obj.cells #[.int .i64 r0', .string r1', .int .i64 r2', .int .i64 r3', .slice r5' r4' r6', .int .i64 r7', .slice r9' r8' r10', .int .i64 r11', .slice r13' r12' r14'] 35)).heap.size = wz.heap.size + 1 := by simp
  have HTS := hid hts
  have HVL := hid (specTermValid t _ _ _ (by have := HTS.out; omega) HAT.out)
  clear hts hat hft hRz hWz hez hbB hEB
  go_wp2_with fail
  refine HVL.out.mono ?_
  rintro e wv ⟨rfl, hbv⟩
  cases hv : vldM t with
  | true =>
    have hEv := (hbv.block _ (by omega)).trans HEB.out
    have hRv := (hbv.block _ (by omega)).trans HER.out
    obtain ⟨y0, y1, y2, y3, y4, y5, y6, y7, y8⟩ := cells9 hEv
    have r0 := cell_of_block (o := 0) hRv
    have r1 := cell_of_block (o := 1) hRv
    have r2 := cell_of_block (o := 2) hRv
    have r3 := cell_of_block (o := 3) hRv
    have r4 := cell_of_block (o := 4) hRv
    have r5 := cell_of_block (o := 5) hRv
    have r6 := cell_of_block (o := 6) hRv
    have r7 := cell_of_block (o := 7) hRv
    have r8 := cell_of_block (o := 8) hRv
    have rz := fun o => frozen_of_block (o := o) hRv
    have FIN := hid ((dm_close (R := w.heap.size) (lo := w.heap.size + 1) HTS.out (HAT.out.below hbv) ((HFT.out.below hbv).mono (by omega)) (HRB.out.rw hbv) (HWB.out.trans (Rw.of_below hbv HRB.out.lt)) hMw (Nat.le_refl _) (Nat.lt_succ_self _)).up (q' := q + 45000) (S' := 41000) (by omega) (by omega))
    clear hbv hEv hRv hv
    go_wp2_with fail
    exact bodyPost_ret (v := .agg #[.int .i64 r0', .string r1', .int .i64 r2', .int .i64 r3', .slice r5' r4' r6', .int .i64 r7', .slice r9' r8' r10', .int .i64 r11', .slice r13' r12' r14']) (by simp [results, Tryd.results164, go_sem, r0, r1, r2, r3, r4, r5, r6, r7, r8]) rfl FIN.out
  | false =>
    have HRV := hid (HRB.out.rw hbv)
    have HWV := hid (HWB.out.trans (Rw.of_below hbv HRB.out.lt))
    have HEV := hid ((hbv.block _ (by omega)).trans HER.out)
    clear hbv hv
    go_wp2_with fail
    refine (l2Num_any 3 _).mono ?_
    rintro e w7 ⟨rfl, hb7⟩
    have hE7 := (hb7.block _ (lt_of_block HEV.out)).trans HEV.out
    have FIN := hid (leaf_close (R := w.heap.size) (S := 41000) 2 ⟨#[]⟩ 3 (by decide) (Nat.zero_le _) ((HRV.out.rw hb7).mono (q' := q + 45000) (by omega)) (HWV.out.trans (Rw.of_below hb7 HRV.out.lt)) hMw (Nat.le_refl _))
    have r0 := cell_of_block (o := 0) hE7
    have r1 := cell_of_block (o := 1) hE7
    have r2 := cell_of_block (o := 2) hE7
    have r3 := cell_of_block (o := 3) hE7
    have r4 := cell_of_block (o := 4) hE7
    have r5 := cell_of_block (o := 5) hE7
    have r6 := cell_of_block (o := 6) hE7
    have r7 := cell_of_block (o := 7) hE7
    have r8 := cell_of_block (o := 8) hE7
    have rz := fun o => frozen_of_block (o := o) hE7
    clear hb7 hE7
    go_wp2_with fail
    exact bodyPost_ret (v := .agg #[.int .i64 2, .string ⟨#[]⟩, .int .i64 3, .int .i64 0, .slice none 0 0, .int .i64 0, .slice none 0 0, .int .i64 0, .slice none 0 0]) (by simp [results, Tryd.results164, go_sem, r0, r1, r2, r3, r4, r5, r6, r7, r8]) rfl FIN.out

set_option maxRecDepth 100000 in
set_option maxHeartbeats 8000000 in
theorem l2Term_any (M q : Nat) (w : World) (hR0 : RdAt M q w) (hq : q + 60000 ≤ 1000000) :
    Calls Tryd.prog 131 #[.pointer (some ⟨M, 0, none⟩)] w (DrawM M (q + 46000) 41000 w) := by
  have hMw := hR0.lt
  have hb0 : Below w.heap.size w (w.alloc (Obj.cells #[.int .i64 0, .string ⟨#[]⟩, .int .i64 0, .int .i64 0, .slice none 0 0, .int .i64 0, .slice none 0 0, .int .i64 0, .slice none 0 0] 35)) := (Below.refl _ _).alloc (Nat.le_refl _) _
  have HR0 := hid (hR0.rw hb0)
  have HW0 := hid (Rw.of_below hb0 hMw)
  have HE0 := hid (alloc_new w (Obj.cells #[.int .i64 0, .string ⟨#[]⟩, .int .i64 0, .int .i64 0, .slice none 0 0, .int .i64 0, .slice none 0 0, .int .i64 0, .slice none 0 0] 35))
  have hsz0 : (w.alloc (Obj.cells #[.int .i64 0, .string ⟨#[]⟩, .int .i64 0, .int .i64 0, .slice none 0 0, .int .i64 0, .slice none 0 0, .int .i64 0, .slice none 0 0] 35)).heap.size = w.heap.size + 1 := by simp
  have HP := hid (pick_any M q 4 _ HR0.out (by omega) (by omega) (by omega))
  clear hR0 hb0
  go_enter Tryd.func131, Tryd.ntmps131
  go_wp2_with fail
  refine HP.out.mono ?_
  rintro e w1 ⟨i, rfl, ⟨hi0, hi4⟩, hR1, hW1⟩
  have HR1 := hid hR1
  have HW1 := hid (HW0.out.trans hW1)
  have HE1 := hid (hW1.block HE0.out (by omega))
  have hs1 := lt_of_block HE1.out
  clear hR1 hW1
  by_cases hi : i > 0
  · have HC := hid (l2Closed_any M (q + 1) w1 HR1.out (by omega))
    go_wp2_with fail
    refine HC.out.mono ?_
    rintro e w2 ⟨t, v, fp, rfl, hts, hat, hf, hR2, hW2⟩
    obtain ⟨r0', r1', r2', r3', r4', r5', r6', r7', r8', r9', r10', r11', r12', r13', r14', rfl⟩ := hat.agg
    have hE2 := hW2.block HE1.out (by omega)
    have r0 := cell_of_block (o := 0) hE2
    have r1 := cell_of_block (o := 1) hE2
    have r2 := cell_of_block (o := 2) hE2
    have r3 := cell_of_block (o := 3) hE2
    have r4 := cell_of_block (o := 4) hE2
    have r5 := cell_of_block (o := 5) hE2
    have r6 := cell_of_block (o := 6) hE2
    have r7 := cell_of_block (o := 7) hE2
    have r8 := cell_of_block (o := 8) hE2
    have rz := fun o => frozen_of_block (o := o) hE2
    have FIN := hid ((dm_close (R := w.heap.size) (lo := w.heap.size + 1) hts hat (hf.mono (by omega)) hR2 (HW1.out.trans hW2) hMw (Nat.le_refl _) (Nat.lt_succ_self _)).up (q' := q + 46000) (S' := 41000) (by omega) (by omega))
    clear hat hf hR2 hW2 hE2
    go_wp2_with fail
    exact bodyPost_ret (v := .agg #[.int .i64 r0', .string r1', .int .i64 r2', .int .i64 r3', .slice r5' r4' r6', .int .i64 r7', .slice r9' r8' r10', .int .i64 r11', .slice r13' r12' r14']) (by simp [results, Tryd.results131, go_sem, r0, r1, r2, r3, r4, r5, r6, r7, r8]) rfl FIN.out
  have e1 : ¬ (i > 0) := hi
  have hal : Below w1.heap.size w1 (w1.alloc (Obj.cells #[.int .i64 3, .int .i64 2, .int .i64 4] 3)) := (Below.refl _ _).alloc (Nat.le_refl _) _
  have hER := alloc_new w1 (Obj.cells #[.int .i64 3, .int .i64 2, .int .i64 4] 3)

  have hsx := lt_of_block HE1.out
  have HN2 := hid (num_any M (q + 1) (w1.heap.size) [3, 2, 4] _ (HR1.out.rw hal) (by omega) (by omega) (fun j hj => by
    rw [cell_of_block hER]
    have : j = 0 ∨ j = 1 ∨ j = 2 := by simp at hj; omega
    rcases this with rfl | rfl | rfl <;> rfl) (by simp) (by simp))
  have HWY := hid (HW1.out.trans (Rw.of_below hal HR1.out.lt))
  have HEY := hid ((hal.block _ hsx).trans HE1.out)
  clear hal hER
  go_wp2_with fail
  refine HN2.out.mono ?_
  rintro e wy ⟨d0, rfl, hd0, hRy, hWy⟩
  obtain ⟨dd, rfl, hd5⟩ : ∃ dd : Nat, d0 = dd ∧ dd ≤ 5 := by
    simp only [List.mem_cons, List.not_mem_nil, or_false] at hd0
    exact ⟨d0.toNat, by omega, by omega⟩
  have h1024 : 4 ^ dd ≤ 1024 := by
    have : dd = 0 ∨ dd = 1 ∨ dd = 2 ∨ dd = 3 ∨ dd = 4 ∨ dd = 5 := by omega
    rcases this with rfl | rfl | rfl | rfl | rfl | rfl <;> decide
  have hls : (⟨#[120, 122]⟩ : ByteArray).size ≤ 2 := by decide
  have HD := hid (l2Draw_any dd hd5 M (q + 1 + 1) ⟨#[120, 122]⟩ wy hRy (by omega) (by omega))
  have HWZ := hid (HWY.out.trans hWy)
  have HEZ := hid (hWy.block HEY.out (by omega))
  have hLY := hRy.lt
  clear hd0 hRy hWy hls
  go_wp2_with fail
  refine HD.out.mono ?_
  rintro e wz ⟨t, vt, ft, rfl, hts, hat, hft, hRz, hWz⟩
  obtain ⟨r0', r1', r2', r3', r4', r5', r6', r7', r8', r9', r10', r11', r12', r13', r14', rfl⟩ := hat.agg
  have hez := hWz.block HEZ.out (by omega)
  have hsz := lt_of_block hez
  have hbB : Below wz.heap.size wz (wz.alloc (Obj.cells #[.int .i64 r0', .string r1', .int .i64 r2', .int .i64 r3', .slice r5' r4' r6', .int .i64 r7', .slice r9' r8' r10', .int .i64 r11', .slice r13' r12' r14'] 35)) := (Below.refl _ _).alloc (Nat.le_refl _) _
  have hEB := alloc_new wz (Obj.cells #[.int .i64 r0', .string r1', .int .i64 r2', .int .i64 r3', .slice r5' r4' r6', .int .i64 r7', .slice r9' r8' r10', .int .i64 r11', .slice r13' r12' r14'] 35)
  have hey := lt_of_block HEZ.out
  have HFT := hid (hft.below hbB)
  have HAT := hid (hat.below hbB)
  have HRB := hid (hRz.rw hbB)
  have HWB := hid ((HWZ.out.trans hWz).trans (Rw.of_below hbB hRz.lt))
  have HEB := hid hEB
  have HER := hid ((hbB.block _ hsz).trans hez)
  have hszB : (wz.alloc (Obj.cells #[.int .i64 r0', .string r1', .int .i64 r2', .int .i64 r3', .slice r5' r4' r6', .int .i64 r7', .slice r9' r8' r10', .int .i64 r11', .slice r13' r12' r14'] 35)).heap.size = wz.heap.size + 1 := by simp
  have HTS := hid hts
  have HVL := hid (specTermValid t _ _ _ (by have := HTS.out; omega) HAT.out)
  clear hts hat hft hRz hWz hez hbB hEB
  go_wp2_with fail
  refine HVL.out.mono ?_
  rintro e wv ⟨rfl, hbv⟩
  cases hv : vldM t with
  | true =>
    have hEv := (hbv.block _ (by omega)).trans HEB.out
    have hRv := (hbv.block _ (by omega)).trans HER.out
    obtain ⟨y0, y1, y2, y3, y4, y5, y6, y7, y8⟩ := cells9 hEv
    have r0 := cell_of_block (o := 0) hRv
    have r1 := cell_of_block (o := 1) hRv
    have r2 := cell_of_block (o := 2) hRv
    have r3 := cell_of_block (o := 3) hRv
    have r4 := cell_of_block (o := 4) hRv
    have r5 := cell_of_block (o := 5) hRv
    have r6 := cell_of_block (o := 6) hRv
    have r7 := cell_of_block (o := 7) hRv
    have r8 := cell_of_block (o := 8) hRv
    have rz := fun o => frozen_of_block (o := o) hRv
    have FIN := hid ((dm_close (R := w.heap.size) (lo := w.heap.size + 1) HTS.out (HAT.out.below hbv) ((HFT.out.below hbv).mono (by omega)) (HRB.out.rw hbv) (HWB.out.trans (Rw.of_below hbv HRB.out.lt)) hMw (Nat.le_refl _) (Nat.lt_succ_self _)).up (q' := q + 46000) (S' := 41000) (by omega) (by omega))
    clear hbv hEv hRv hv
    go_wp2_with fail
    exact bodyPost_ret (v := .agg #[.int .i64 r0', .string r1', .int .i64 r2', .int .i64 r3', .slice r5' r4' r6', .int .i64 r7', .slice r9' r8' r10', .int .i64 r11', .slice r13' r12' r14']) (by simp [results, Tryd.results131, go_sem, r0, r1, r2, r3, r4, r5, r6, r7, r8]) rfl FIN.out
  | false =>
    have HRV := hid (HRB.out.rw hbv)
    have HWV := hid (HWB.out.trans (Rw.of_below hbv HRB.out.lt))
    have HEV := hid ((hbv.block _ (by omega)).trans HER.out)
    clear hbv hv
    go_wp2_with fail
    refine (l2Num_any 4 _).mono ?_
    rintro e w7 ⟨rfl, hb7⟩
    have hE7 := (hb7.block _ (lt_of_block HEV.out)).trans HEV.out
    have FIN := hid (leaf_close (R := w.heap.size) (S := 41000) 2 ⟨#[]⟩ 4 (by decide) (Nat.zero_le _) ((HRV.out.rw hb7).mono (q' := q + 46000) (by omega)) (HWV.out.trans (Rw.of_below hb7 HRV.out.lt)) hMw (Nat.le_refl _))
    have r0 := cell_of_block (o := 0) hE7
    have r1 := cell_of_block (o := 1) hE7
    have r2 := cell_of_block (o := 2) hE7
    have r3 := cell_of_block (o := 3) hE7
    have r4 := cell_of_block (o := 4) hE7
    have r5 := cell_of_block (o := 5) hE7
    have r6 := cell_of_block (o := 6) hE7
    have r7 := cell_of_block (o := 7) hE7
    have r8 := cell_of_block (o := 8) hE7
    have rz := fun o => frozen_of_block (o := o) hE7
    clear hb7 hE7
    go_wp2_with fail
    exact bodyPost_ret (v := .agg #[.int .i64 2, .string ⟨#[]⟩, .int .i64 4, .int .i64 0, .slice none 0 0, .int .i64 0, .slice none 0 0, .int .i64 0, .slice none 0 0]) (by simp [results, Tryd.results131, go_sem, r0, r1, r2, r3, r4, r5, r6, r7, r8]) rfl FIN.out
end Go.Proofs.YtffmpjcjmffdeaaDoor
