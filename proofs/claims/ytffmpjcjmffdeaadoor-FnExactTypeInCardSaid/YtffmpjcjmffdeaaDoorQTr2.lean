/- The specification's l3Result: selections, choices, applications; every kind. -/
import Derived.Test.YtffmpjcjmffdeaaDoorQTr1
namespace Go.Proofs.YtffmpjcjmffdeaaDoor
open Go.RowKit

set_option maxRecDepth 100000 in
set_option maxHeartbeats 4000000 in
theorem res_11 : ReC 11 := by
  intro nm num ty fr lb ts v fe us s fu w hat hus hlen hvl hty
  obtain ⟨k1, n1, a1, c1, k2, n2, a2, c2, a3, c3, f1, f2, f3, rfl, hnm, ht1, ht2, rfl, hs3⟩ := hat.parts
  have HB := hid (show Below w.heap.size w ((w.alloc (Obj.cells #[.int .i64 11, .string nm, .int .i64 num, .int .i64 k1, .slice a1 n1 c1, .int .i64 k2, .slice a2 n2 c2, .int .i64 lb, .slice a3 ts.length c3] 35)).alloc (Obj.cells #[.int .i64 0, .slice none 0 0] 32)) from ((Below.refl _ _).alloc (Nat.le_refl _) _).alloc (by simp) _)
  have HSZ := hid (show ((w.alloc (Obj.cells #[.int .i64 11, .string nm, .int .i64 num, .int .i64 k1, .slice a1 n1 c1, .int .i64 k2, .slice a2 n2 c2, .int .i64 lb, .slice a3 ts.length c3] 35)).alloc (Obj.cells #[.int .i64 0, .slice none 0 0] 32)).heap.size = w.heap.size + 1 + 1 by simp)
  have HQ := hid (two_out (Below.refl _ ((w.alloc (Obj.cells #[.int .i64 11, .string nm, .int .i64 num, .int .i64 k1, .slice a1 n1 c1, .int .i64 k2, .slice a2 n2 c2, .int .i64 lb, .slice a3 ts.length c3] 35)).alloc (Obj.cells #[.int .i64 0, .slice none 0 0] 32)))).2
  obtain ⟨z0, z1, z2, z3, z4, z5, z6, z7, z8⟩ := cells9 (two_out (Below.refl _ ((w.alloc (Obj.cells #[.int .i64 11, .string nm, .int .i64 num, .int .i64 k1, .slice a1 n1 c1, .int .i64 k2, .slice a2 n2 c2, .int .i64 lb, .slice a3 ts.length c3] 35)).alloc (Obj.cells #[.int .i64 0, .slice none 0 0] 32)))).1
  have hl0 : us.length = 1 := by have : kidsM 11 = 1 := (by decide); omega
  obtain ⟨u, rfl⟩ := List.length_eq_one_iff.1 hl0
  obtain ⟨sa, sc, hss, hcap, hmx, hget⟩ := hus.openA
  subst hss
  obtain ⟨bx, ox, kx, nx, ax, cx, gx, hpx, hltx, ex0, ex1, hkx, -⟩ := hget 0 (by simp)
  subst hpx
  simp (config := { failIfUnchanged := false }) only [Nat.zero_mul, Nat.add_zero, List.getElem_cons_zero] at ex0 ex1 hkx
  replace ex0 := cell_keep ex0 HB.out
  replace ex1 := cell_keep ex1 HB.out
  have HVx := hid (hvl u (by simp))
  have HKx := hid (fun (W : World) (h : Below ((w.alloc (Obj.cells #[.int .i64 11, .string nm, .int .i64 num, .int .i64 k1, .slice a1 n1 c1, .int .i64 k2, .slice a2 n2 c2, .int .i64 lb, .slice a3 ts.length c3] 35)).alloc (Obj.cells #[.int .i64 0, .slice none 0 0] 32)).heap.size ((w.alloc (Obj.cells #[.int .i64 11, .string nm, .int .i64 num, .int .i64 k1, .slice a1 n1 c1, .int .i64 k2, .slice a2 n2 c2, .int .i64 lb, .slice a3 ts.length c3] 35)).alloc (Obj.cells #[.int .i64 0, .slice none 0 0] 32)) W) => hkx.below (below_trans HB.out h))
  have HT1 := hid (fun (W : World) (h : Below ((w.alloc (Obj.cells #[.int .i64 11, .string nm, .int .i64 num, .int .i64 k1, .slice a1 n1 c1, .int .i64 k2, .slice a2 n2 c2, .int .i64 lb, .slice a3 ts.length c3] 35)).alloc (Obj.cells #[.int .i64 0, .slice none 0 0] 32)).heap.size ((w.alloc (Obj.cells #[.int .i64 11, .string nm, .int .i64 num, .int .i64 k1, .slice a1 n1 c1, .int .i64 k2, .slice a2 n2 c2, .int .i64 lb, .slice a3 ts.length c3] 35)).alloc (Obj.cells #[.int .i64 0, .slice none 0 0] 32)) W) => ht1.below (below_trans HB.out h))
  have HTY := hid hty
  have HS := hid (fun (W : World) (h : Below ((w.alloc (Obj.cells #[.int .i64 11, .string nm, .int .i64 num, .int .i64 k1, .slice a1 n1 c1, .int .i64 k2, .slice a2 n2 c2, .int .i64 lb, .slice a3 ts.length c3] 35)).alloc (Obj.cells #[.int .i64 0, .slice none 0 0] 32)).heap.size ((w.alloc (Obj.cells #[.int .i64 11, .string nm, .int .i64 num, .int .i64 k1, .slice a1 n1 c1, .int .i64 k2, .slice a2 n2 c2, .int .i64 lb, .slice a3 ts.length c3] 35)).alloc (Obj.cells #[.int .i64 0, .slice none 0 0] 32)) W) => (show W.cell? ⟨bx, ox, none⟩ = some (.int .i64 kx) ∧ W.cell? ⟨bx, ox + 1, none⟩ = some (.slice ax nx cx) from ⟨cell_keep ex0 h, cell_keep ex1 h⟩))
  have HSP := hid (fun (W : World) (x y : Value) (h : Below ((w.alloc (Obj.cells #[.int .i64 11, .string nm, .int .i64 num, .int .i64 k1, .slice a1 n1 c1, .int .i64 k2, .slice a2 n2 c2, .int .i64 lb, .slice a3 ts.length c3] 35)).alloc (Obj.cells #[.int .i64 0, .slice none 0 0] 32)).heap.size ((w.alloc (Obj.cells #[.int .i64 11, .string nm, .int .i64 num, .int .i64 k1, .slice a1 n1 c1, .int .i64 k2, .slice a2 n2 c2, .int .i64 lb, .slice a3 ts.length c3] 35)).alloc (Obj.cells #[.int .i64 0, .slice none 0 0] 32)) W) => (show ((W.setCell ⟨w.heap.size + 1, 0, none⟩ x).setCell ⟨w.heap.size + 1, 1, none⟩ y).cell? ⟨bx, ox, none⟩ = some (.int .i64 kx) ∧ ((W.setCell ⟨w.heap.size + 1, 0, none⟩ x).setCell ⟨w.heap.size + 1, 1, none⟩ y).cell? ⟨bx, ox + 1, none⟩ = some (.slice ax nx cx) from ⟨two_keepS (cell_keep ex0 h) (by omega) _ _, two_keepS (cell_keep ex1 h) (by omega) _ _⟩))
  clear hat hus hlen hvl hs3 ht1 ht2 hget hcap hmx hty hkx hl0
  have HR1 := hid (show ∀ x, resM 11 ty [u] = some x → mtOf 5 0 u = x from fun x h => by
    have h' : (if mtOk 5 u = true then some (mtOf 5 0 u) else none) = some x := h
    by_cases hv : mtOk 5 u = true
    · rw [if_pos hv] at h'; cases h'; rfl
    · rw [if_neg hv] at h'; cases h')
  have HR2 := hid (show (resM 11 ty [u]).isSome = mtOk 5 u from by
    have h' : resM 11 ty [u] = (if mtOk 5 u = true then some (mtOf 5 0 u) else none) := rfl
    rw [h']
    cases mtOk 5 u <;> rfl)
  have HM := hid (fun (W : World) (h1 : u.At W (.agg #[.int .i64 kx, .slice ax nx cx]) gx) => l3Match_any 5 (.inr rfl) u _ gx W h1 (shp_cnt8 HVx.out (by omega)) HVx.out)
  generalize mtOf 5 0 u = T0 at *
  generalize mtOf 5 1 u = T1 at *
  generalize mtOk 5 u = V at *
  go_enter Tryd.func115, Tryd.ntmps115
  go_wp2_with fail
  generalize ((w.alloc (Obj.cells #[.int .i64 11, .string nm, .int .i64 num, .int .i64 k1, .slice a1 n1 c1, .int .i64 k2, .slice a2 n2 c2, .int .i64 lb, .slice a3 ts.length c3] 35)).alloc (Obj.cells #[.int .i64 0, .slice none 0 0] 32)) = Z at *
  have hzS : w.heap.size + 1 < Z.heap.size := by rw [HSZ.out]; omega
  refine (HM.out _ (HKx.out _ (Below.refl _ _))).mono ?_
  rintro e y1 ⟨v1, v2, e1, e2, M, rfl, h1, h2, hf1, hf2, -, -, -, -, hy1⟩
  obtain ⟨q1, m1, p1, d1, rfl⟩ := h1.agg
  obtain ⟨q2, m2, p2, d2, rfl⟩ := h2.agg
  have hbx : Below y1.heap.size y1 ((y1.alloc (Obj.cells #[.int .i64 q1, .slice p1 m1 d1] 32)).alloc (Obj.cells #[.int .i64 q2, .slice p2 m2 d2] 32)) := ((Below.refl _ _).alloc (Nat.le_refl _) _).alloc (by simp) _
  have hk1' : Below Z.heap.size Z ((y1.alloc (Obj.cells #[.int .i64 q1, .slice p1 m1 d1] 32)).alloc (Obj.cells #[.int .i64 q2, .slice p2 m2 d2] 32)) := below_trans hy1 hbx
  have qq := (hy1.block _ (lt_of_block HQ.out)).trans HQ.out
  have r0 : y1.cell? ⟨w.heap.size + 1, 0, none⟩ = some (.int .i64 0) := by rw [cell_of_block qq]; rfl
  have r1 : y1.cell? ⟨w.heap.size + 1, 1, none⟩ = some (.slice none 0 0) := by rw [cell_of_block qq]; rfl
  have rz := fun o => frozen_of_block (o := o) qq
  have rl := lt_of_block qq
  have rne : ¬ (w.heap.size = y1.heap.size) := by omega
  have rlt : w.heap.size < y1.heap.size := by omega
  have FIN0 := MadeTO.stored (w := w) (P := w.heap.size + 1) (o := resM 11 ty [u]) (T := T0) HR1.out HR2.out (h1.below hbx) (hf1.below hbx) hzS (by omega) (below_trans HB.out hk1')
  rw [setCell_alloc9 _ _ (by simp; omega), setCell_alloc9 _ _ rl, setCell_alloc9 _ _ (by simp; omega), setCell_alloc9 _ _ (by rw [size_setCell]; exact rl)] at FIN0
  have FIN := hid FIN0
  clear FIN0 h1 h2 hf1 hf2 hbx hk1' qq HS HSP HB HQ HM HR1 HR2 hy1
  go_wp2_with fail
  exact bodyPost_ret (v := .tuple #[.agg #[.int .i64 q1, .slice p1 m1 d1], .bool V]) (by simp [results, Tryd.results115, go_sem, r0, r1, rl, rlt]) rfl FIN.out

set_option maxRecDepth 100000 in
set_option maxHeartbeats 4000000 in
theorem res_12 : ReC 12 := by
  intro nm num ty fr lb ts v fe us s fu w hat hus hlen hvl hty
  obtain ⟨k1, n1, a1, c1, k2, n2, a2, c2, a3, c3, f1, f2, f3, rfl, hnm, ht1, ht2, rfl, hs3⟩ := hat.parts
  have HB := hid (show Below w.heap.size w ((w.alloc (Obj.cells #[.int .i64 12, .string nm, .int .i64 num, .int .i64 k1, .slice a1 n1 c1, .int .i64 k2, .slice a2 n2 c2, .int .i64 lb, .slice a3 ts.length c3] 35)).alloc (Obj.cells #[.int .i64 0, .slice none 0 0] 32)) from ((Below.refl _ _).alloc (Nat.le_refl _) _).alloc (by simp) _)
  have HSZ := hid (show ((w.alloc (Obj.cells #[.int .i64 12, .string nm, .int .i64 num, .int .i64 k1, .slice a1 n1 c1, .int .i64 k2, .slice a2 n2 c2, .int .i64 lb, .slice a3 ts.length c3] 35)).alloc (Obj.cells #[.int .i64 0, .slice none 0 0] 32)).heap.size = w.heap.size + 1 + 1 by simp)
  have HQ := hid (two_out (Below.refl _ ((w.alloc (Obj.cells #[.int .i64 12, .string nm, .int .i64 num, .int .i64 k1, .slice a1 n1 c1, .int .i64 k2, .slice a2 n2 c2, .int .i64 lb, .slice a3 ts.length c3] 35)).alloc (Obj.cells #[.int .i64 0, .slice none 0 0] 32)))).2
  obtain ⟨z0, z1, z2, z3, z4, z5, z6, z7, z8⟩ := cells9 (two_out (Below.refl _ ((w.alloc (Obj.cells #[.int .i64 12, .string nm, .int .i64 num, .int .i64 k1, .slice a1 n1 c1, .int .i64 k2, .slice a2 n2 c2, .int .i64 lb, .slice a3 ts.length c3] 35)).alloc (Obj.cells #[.int .i64 0, .slice none 0 0] 32)))).1
  have hl0 : us.length = 1 := by have : kidsM 12 = 1 := (by decide); omega
  obtain ⟨u, rfl⟩ := List.length_eq_one_iff.1 hl0
  obtain ⟨sa, sc, hss, hcap, hmx, hget⟩ := hus.openA
  subst hss
  obtain ⟨bx, ox, kx, nx, ax, cx, gx, hpx, hltx, ex0, ex1, hkx, -⟩ := hget 0 (by simp)
  subst hpx
  simp (config := { failIfUnchanged := false }) only [Nat.zero_mul, Nat.add_zero, List.getElem_cons_zero] at ex0 ex1 hkx
  replace ex0 := cell_keep ex0 HB.out
  replace ex1 := cell_keep ex1 HB.out
  have HVx := hid (hvl u (by simp))
  have HKx := hid (fun (W : World) (h : Below ((w.alloc (Obj.cells #[.int .i64 12, .string nm, .int .i64 num, .int .i64 k1, .slice a1 n1 c1, .int .i64 k2, .slice a2 n2 c2, .int .i64 lb, .slice a3 ts.length c3] 35)).alloc (Obj.cells #[.int .i64 0, .slice none 0 0] 32)).heap.size ((w.alloc (Obj.cells #[.int .i64 12, .string nm, .int .i64 num, .int .i64 k1, .slice a1 n1 c1, .int .i64 k2, .slice a2 n2 c2, .int .i64 lb, .slice a3 ts.length c3] 35)).alloc (Obj.cells #[.int .i64 0, .slice none 0 0] 32)) W) => hkx.below (below_trans HB.out h))
  have HT1 := hid (fun (W : World) (h : Below ((w.alloc (Obj.cells #[.int .i64 12, .string nm, .int .i64 num, .int .i64 k1, .slice a1 n1 c1, .int .i64 k2, .slice a2 n2 c2, .int .i64 lb, .slice a3 ts.length c3] 35)).alloc (Obj.cells #[.int .i64 0, .slice none 0 0] 32)).heap.size ((w.alloc (Obj.cells #[.int .i64 12, .string nm, .int .i64 num, .int .i64 k1, .slice a1 n1 c1, .int .i64 k2, .slice a2 n2 c2, .int .i64 lb, .slice a3 ts.length c3] 35)).alloc (Obj.cells #[.int .i64 0, .slice none 0 0] 32)) W) => ht1.below (below_trans HB.out h))
  have HTY := hid hty
  have HS := hid (fun (W : World) (h : Below ((w.alloc (Obj.cells #[.int .i64 12, .string nm, .int .i64 num, .int .i64 k1, .slice a1 n1 c1, .int .i64 k2, .slice a2 n2 c2, .int .i64 lb, .slice a3 ts.length c3] 35)).alloc (Obj.cells #[.int .i64 0, .slice none 0 0] 32)).heap.size ((w.alloc (Obj.cells #[.int .i64 12, .string nm, .int .i64 num, .int .i64 k1, .slice a1 n1 c1, .int .i64 k2, .slice a2 n2 c2, .int .i64 lb, .slice a3 ts.length c3] 35)).alloc (Obj.cells #[.int .i64 0, .slice none 0 0] 32)) W) => (show W.cell? ⟨bx, ox, none⟩ = some (.int .i64 kx) ∧ W.cell? ⟨bx, ox + 1, none⟩ = some (.slice ax nx cx) from ⟨cell_keep ex0 h, cell_keep ex1 h⟩))
  have HSP := hid (fun (W : World) (x y : Value) (h : Below ((w.alloc (Obj.cells #[.int .i64 12, .string nm, .int .i64 num, .int .i64 k1, .slice a1 n1 c1, .int .i64 k2, .slice a2 n2 c2, .int .i64 lb, .slice a3 ts.length c3] 35)).alloc (Obj.cells #[.int .i64 0, .slice none 0 0] 32)).heap.size ((w.alloc (Obj.cells #[.int .i64 12, .string nm, .int .i64 num, .int .i64 k1, .slice a1 n1 c1, .int .i64 k2, .slice a2 n2 c2, .int .i64 lb, .slice a3 ts.length c3] 35)).alloc (Obj.cells #[.int .i64 0, .slice none 0 0] 32)) W) => (show ((W.setCell ⟨w.heap.size + 1, 0, none⟩ x).setCell ⟨w.heap.size + 1, 1, none⟩ y).cell? ⟨bx, ox, none⟩ = some (.int .i64 kx) ∧ ((W.setCell ⟨w.heap.size + 1, 0, none⟩ x).setCell ⟨w.heap.size + 1, 1, none⟩ y).cell? ⟨bx, ox + 1, none⟩ = some (.slice ax nx cx) from ⟨two_keepS (cell_keep ex0 h) (by omega) _ _, two_keepS (cell_keep ex1 h) (by omega) _ _⟩))
  clear hat hus hlen hvl hs3 ht1 ht2 hget hcap hmx hty hkx hl0
  have HR1 := hid (show ∀ x, resM 12 ty [u] = some x → mtOf 5 1 u = x from fun x h => by
    have h' : (if mtOk 5 u = true then some (mtOf 5 1 u) else none) = some x := h
    by_cases hv : mtOk 5 u = true
    · rw [if_pos hv] at h'; cases h'; rfl
    · rw [if_neg hv] at h'; cases h')
  have HR2 := hid (show (resM 12 ty [u]).isSome = mtOk 5 u from by
    have h' : resM 12 ty [u] = (if mtOk 5 u = true then some (mtOf 5 1 u) else none) := rfl
    rw [h']
    cases mtOk 5 u <;> rfl)
  have HM := hid (fun (W : World) (h1 : u.At W (.agg #[.int .i64 kx, .slice ax nx cx]) gx) => l3Match_any 5 (.inr rfl) u _ gx W h1 (shp_cnt8 HVx.out (by omega)) HVx.out)
  generalize mtOf 5 0 u = T0 at *
  generalize mtOf 5 1 u = T1 at *
  generalize mtOk 5 u = V at *
  go_enter Tryd.func115, Tryd.ntmps115
  go_wp2_with fail
  generalize ((w.alloc (Obj.cells #[.int .i64 12, .string nm, .int .i64 num, .int .i64 k1, .slice a1 n1 c1, .int .i64 k2, .slice a2 n2 c2, .int .i64 lb, .slice a3 ts.length c3] 35)).alloc (Obj.cells #[.int .i64 0, .slice none 0 0] 32)) = Z at *
  have hzS : w.heap.size + 1 < Z.heap.size := by rw [HSZ.out]; omega
  refine (HM.out _ (HKx.out _ (Below.refl _ _))).mono ?_
  rintro e y1 ⟨v1, v2, e1, e2, M, rfl, h1, h2, hf1, hf2, -, -, -, -, hy1⟩
  obtain ⟨q1, m1, p1, d1, rfl⟩ := h1.agg
  obtain ⟨q2, m2, p2, d2, rfl⟩ := h2.agg
  have hbx : Below y1.heap.size y1 ((y1.alloc (Obj.cells #[.int .i64 q1, .slice p1 m1 d1] 32)).alloc (Obj.cells #[.int .i64 q2, .slice p2 m2 d2] 32)) := ((Below.refl _ _).alloc (Nat.le_refl _) _).alloc (by simp) _
  have hk1' : Below Z.heap.size Z ((y1.alloc (Obj.cells #[.int .i64 q1, .slice p1 m1 d1] 32)).alloc (Obj.cells #[.int .i64 q2, .slice p2 m2 d2] 32)) := below_trans hy1 hbx
  have qq := (hy1.block _ (lt_of_block HQ.out)).trans HQ.out
  have r0 : y1.cell? ⟨w.heap.size + 1, 0, none⟩ = some (.int .i64 0) := by rw [cell_of_block qq]; rfl
  have r1 : y1.cell? ⟨w.heap.size + 1, 1, none⟩ = some (.slice none 0 0) := by rw [cell_of_block qq]; rfl
  have rz := fun o => frozen_of_block (o := o) qq
  have rl := lt_of_block qq
  have rne : ¬ (w.heap.size = y1.heap.size) := by omega
  have rlt : w.heap.size < y1.heap.size := by omega
  have FIN0 := MadeTO.stored (w := w) (P := w.heap.size + 1) (o := resM 12 ty [u]) (T := T1) HR1.out HR2.out (h2.below hbx) (hf2.below hbx) hzS (by omega) (below_trans HB.out hk1')
  rw [setCell_alloc9 _ _ (by simp; omega), setCell_alloc9 _ _ rl, setCell_alloc9 _ _ (by simp; omega), setCell_alloc9 _ _ (by rw [size_setCell]; exact rl)] at FIN0
  have FIN := hid FIN0
  clear FIN0 h1 h2 hf1 hf2 hbx hk1' qq HS HSP HB HQ HM HR1 HR2 hy1
  go_wp2_with fail
  exact bodyPost_ret (v := .tuple #[.agg #[.int .i64 q2, .slice p2 m2 d2], .bool V]) (by simp [results, Tryd.results115, go_sem, r0, r1, rl, rlt]) rfl FIN.out

set_option maxRecDepth 100000 in
set_option maxHeartbeats 4000000 in
theorem res_9 : ReC 9 := by
  intro nm num ty fr lb ts v fe us s fu w hat hus hlen hvl hty
  obtain ⟨k1, n1, a1, c1, k2, n2, a2, c2, a3, c3, f1, f2, f3, rfl, hnm, ht1, ht2, rfl, hs3⟩ := hat.parts
  have HB := hid (show Below w.heap.size w ((w.alloc (Obj.cells #[.int .i64 9, .string nm, .int .i64 num, .int .i64 k1, .slice a1 n1 c1, .int .i64 k2, .slice a2 n2 c2, .int .i64 lb, .slice a3 ts.length c3] 35)).alloc (Obj.cells #[.int .i64 0, .slice none 0 0] 32)) from ((Below.refl _ _).alloc (Nat.le_refl _) _).alloc (by simp) _)
  have HSZ := hid (show ((w.alloc (Obj.cells #[.int .i64 9, .string nm, .int .i64 num, .int .i64 k1, .slice a1 n1 c1, .int .i64 k2, .slice a2 n2 c2, .int .i64 lb, .slice a3 ts.length c3] 35)).alloc (Obj.cells #[.int .i64 0, .slice none 0 0] 32)).heap.size = w.heap.size + 1 + 1 by simp)
  have HQ := hid (two_out (Below.refl _ ((w.alloc (Obj.cells #[.int .i64 9, .string nm, .int .i64 num, .int .i64 k1, .slice a1 n1 c1, .int .i64 k2, .slice a2 n2 c2, .int .i64 lb, .slice a3 ts.length c3] 35)).alloc (Obj.cells #[.int .i64 0, .slice none 0 0] 32)))).2
  obtain ⟨z0, z1, z2, z3, z4, z5, z6, z7, z8⟩ := cells9 (two_out (Below.refl _ ((w.alloc (Obj.cells #[.int .i64 9, .string nm, .int .i64 num, .int .i64 k1, .slice a1 n1 c1, .int .i64 k2, .slice a2 n2 c2, .int .i64 lb, .slice a3 ts.length c3] 35)).alloc (Obj.cells #[.int .i64 0, .slice none 0 0] 32)))).1
  obtain ⟨u, u2, u3, rfl⟩ : ∃ a b c, us = [a, b, c] := by
    have hl0 : us.length = 3 := by have : kidsM 9 = 3 := (by decide); omega
    match us, hl0 with
    | [a, b, c], _ => exact ⟨a, b, c, rfl⟩
  obtain ⟨sa, sc, hss, hcap, hmx, hget⟩ := hus.openA
  subst hss
  obtain ⟨bx, ox, kx, nx, ax, cx, gx, hpx, hltx, ex0, ex1, hkx, -⟩ := hget 0 (by simp)
  obtain ⟨bj, oj, kj, nj, aj, cj, gj, hpj, hltj, ej0, ej1, hkj, -⟩ := hget 1 (by simp)
  obtain ⟨bl, ol, kl, nl, al, cl, gl, hpl, hltl, el0, el1, hkl, -⟩ := hget 2 (by simp)
  rw [hpx] at hpj
  simp only [Option.some.injEq, Addr.mk.injEq, and_true] at hpj
  obtain ⟨rfl, rfl⟩ := hpj
  rw [hpx] at hpl
  simp only [Option.some.injEq, Addr.mk.injEq, and_true] at hpl
  obtain ⟨rfl, rfl⟩ := hpl
  subst hpx
  simp (config := { failIfUnchanged := false }) only [Nat.zero_mul, Nat.add_zero, Nat.one_mul, Nat.reduceMul, List.getElem_cons_zero, List.getElem_cons_succ] at ex0 ex1 hkx ej0 ej1 hkj el0 el1 hkl
  replace ex0 := cell_keep ex0 HB.out
  replace ex1 := cell_keep ex1 HB.out
  have HVx := hid (hvl u (by simp))
  have HKx := hid (fun (W : World) (h : Below ((w.alloc (Obj.cells #[.int .i64 9, .string nm, .int .i64 num, .int .i64 k1, .slice a1 n1 c1, .int .i64 k2, .slice a2 n2 c2, .int .i64 lb, .slice a3 ts.length c3] 35)).alloc (Obj.cells #[.int .i64 0, .slice none 0 0] 32)).heap.size ((w.alloc (Obj.cells #[.int .i64 9, .string nm, .int .i64 num, .int .i64 k1, .slice a1 n1 c1, .int .i64 k2, .slice a2 n2 c2, .int .i64 lb, .slice a3 ts.length c3] 35)).alloc (Obj.cells #[.int .i64 0, .slice none 0 0] 32)) W) => hkx.below (below_trans HB.out h))
  replace ej0 := cell_keep ej0 HB.out
  replace ej1 := cell_keep ej1 HB.out
  have HVj := hid (hvl u2 (by simp))
  have HKj := hid (fun (W : World) (h : Below ((w.alloc (Obj.cells #[.int .i64 9, .string nm, .int .i64 num, .int .i64 k1, .slice a1 n1 c1, .int .i64 k2, .slice a2 n2 c2, .int .i64 lb, .slice a3 ts.length c3] 35)).alloc (Obj.cells #[.int .i64 0, .slice none 0 0] 32)).heap.size ((w.alloc (Obj.cells #[.int .i64 9, .string nm, .int .i64 num, .int .i64 k1, .slice a1 n1 c1, .int .i64 k2, .slice a2 n2 c2, .int .i64 lb, .slice a3 ts.length c3] 35)).alloc (Obj.cells #[.int .i64 0, .slice none 0 0] 32)) W) => hkj.below (below_trans HB.out h))
  replace el0 := cell_keep el0 HB.out
  replace el1 := cell_keep el1 HB.out
  have HVl := hid (hvl u3 (by simp))
  have HKl := hid (fun (W : World) (h : Below ((w.alloc (Obj.cells #[.int .i64 9, .string nm, .int .i64 num, .int .i64 k1, .slice a1 n1 c1, .int .i64 k2, .slice a2 n2 c2, .int .i64 lb, .slice a3 ts.length c3] 35)).alloc (Obj.cells #[.int .i64 0, .slice none 0 0] 32)).heap.size ((w.alloc (Obj.cells #[.int .i64 9, .string nm, .int .i64 num, .int .i64 k1, .slice a1 n1 c1, .int .i64 k2, .slice a2 n2 c2, .int .i64 lb, .slice a3 ts.length c3] 35)).alloc (Obj.cells #[.int .i64 0, .slice none 0 0] 32)) W) => hkl.below (below_trans HB.out h))
  have HT1 := hid (fun (W : World) (h : Below ((w.alloc (Obj.cells #[.int .i64 9, .string nm, .int .i64 num, .int .i64 k1, .slice a1 n1 c1, .int .i64 k2, .slice a2 n2 c2, .int .i64 lb, .slice a3 ts.length c3] 35)).alloc (Obj.cells #[.int .i64 0, .slice none 0 0] 32)).heap.size ((w.alloc (Obj.cells #[.int .i64 9, .string nm, .int .i64 num, .int .i64 k1, .slice a1 n1 c1, .int .i64 k2, .slice a2 n2 c2, .int .i64 lb, .slice a3 ts.length c3] 35)).alloc (Obj.cells #[.int .i64 0, .slice none 0 0] 32)) W) => ht1.below (below_trans HB.out h))
  have HTY := hid hty
  have HS := hid (fun (W : World) (h : Below ((w.alloc (Obj.cells #[.int .i64 9, .string nm, .int .i64 num, .int .i64 k1, .slice a1 n1 c1, .int .i64 k2, .slice a2 n2 c2, .int .i64 lb, .slice a3 ts.length c3] 35)).alloc (Obj.cells #[.int .i64 0, .slice none 0 0] 32)).heap.size ((w.alloc (Obj.cells #[.int .i64 9, .string nm, .int .i64 num, .int .i64 k1, .slice a1 n1 c1, .int .i64 k2, .slice a2 n2 c2, .int .i64 lb, .slice a3 ts.length c3] 35)).alloc (Obj.cells #[.int .i64 0, .slice none 0 0] 32)) W) => (show W.cell? ⟨bx, ox, none⟩ = some (.int .i64 kx) ∧ W.cell? ⟨bx, ox + 1, none⟩ = some (.slice ax nx cx) ∧ W.cell? ⟨bx, ox + 2, none⟩ = some (.int .i64 kj) ∧ W.cell? ⟨bx, ox + 2 + 1, none⟩ = some (.slice aj nj cj) ∧ W.cell? ⟨bx, ox + 4, none⟩ = some (.int .i64 kl) ∧ W.cell? ⟨bx, ox + 4 + 1, none⟩ = some (.slice al nl cl) from ⟨cell_keep ex0 h, cell_keep ex1 h, cell_keep ej0 h, cell_keep ej1 h, cell_keep el0 h, cell_keep el1 h⟩))
  have HSP := hid (fun (W : World) (x y : Value) (h : Below ((w.alloc (Obj.cells #[.int .i64 9, .string nm, .int .i64 num, .int .i64 k1, .slice a1 n1 c1, .int .i64 k2, .slice a2 n2 c2, .int .i64 lb, .slice a3 ts.length c3] 35)).alloc (Obj.cells #[.int .i64 0, .slice none 0 0] 32)).heap.size ((w.alloc (Obj.cells #[.int .i64 9, .string nm, .int .i64 num, .int .i64 k1, .slice a1 n1 c1, .int .i64 k2, .slice a2 n2 c2, .int .i64 lb, .slice a3 ts.length c3] 35)).alloc (Obj.cells #[.int .i64 0, .slice none 0 0] 32)) W) => (show ((W.setCell ⟨w.heap.size + 1, 0, none⟩ x).setCell ⟨w.heap.size + 1, 1, none⟩ y).cell? ⟨bx, ox, none⟩ = some (.int .i64 kx) ∧ ((W.setCell ⟨w.heap.size + 1, 0, none⟩ x).setCell ⟨w.heap.size + 1, 1, none⟩ y).cell? ⟨bx, ox + 1, none⟩ = some (.slice ax nx cx) ∧ ((W.setCell ⟨w.heap.size + 1, 0, none⟩ x).setCell ⟨w.heap.size + 1, 1, none⟩ y).cell? ⟨bx, ox + 2, none⟩ = some (.int .i64 kj) ∧ ((W.setCell ⟨w.heap.size + 1, 0, none⟩ x).setCell ⟨w.heap.size + 1, 1, none⟩ y).cell? ⟨bx, ox + 2 + 1, none⟩ = some (.slice aj nj cj) ∧ ((W.setCell ⟨w.heap.size + 1, 0, none⟩ x).setCell ⟨w.heap.size + 1, 1, none⟩ y).cell? ⟨bx, ox + 4, none⟩ = some (.int .i64 kl) ∧ ((W.setCell ⟨w.heap.size + 1, 0, none⟩ x).setCell ⟨w.heap.size + 1, 1, none⟩ y).cell? ⟨bx, ox + 4 + 1, none⟩ = some (.slice al nl cl) from ⟨two_keepS (cell_keep ex0 h) (by omega) _ _, two_keepS (cell_keep ex1 h) (by omega) _ _, two_keepS (cell_keep ej0 h) (by omega) _ _, two_keepS (cell_keep ej1 h) (by omega) _ _, two_keepS (cell_keep el0 h) (by omega) _ _, two_keepS (cell_keep el1 h) (by omega) _ _⟩))
  clear hat hus hlen hvl hs3 ht1 ht2 hget hcap hmx hty hkx hkj hkl
  have HR1 := hid (show cons u2 u3 = false → resM 9 ty [u, u2, u3] = none from fun h => by simp [resM, nth, h])
  have HR2 := hid (show cons u2 u3 = true → ∀ x, resM 9 ty [u, u2, u3] = some x → meet u2 u3 = x from fun h x hx => by
    have h' : (if (cons u2 u3 && cons u tB) = true then some (meet u2 u3) else none) = some x := hx
    rw [h, Bool.true_and] at h'
    by_cases hv : cons u tB = true
    · rw [if_pos hv] at h'; cases h'; rfl
    · rw [if_neg hv] at h'; cases h')
  have HR3 := hid (show cons u2 u3 = true → (resM 9 ty [u, u2, u3]).isSome = cons u tB from fun h => by
    have h' : resM 9 ty [u, u2, u3] = (if (cons u2 u3 && cons u tB) = true then some (meet u2 u3) else none) := rfl
    rw [h', h, Bool.true_and]
    cases cons u tB <;> rfl)
  have HC1 := hid (fun (W : World) (h1 : u2.At W (.agg #[.int .i64 kj, .slice aj nj cj]) gj) (h2 : u3.At W (.agg #[.int .i64 kl, .slice al nl cl]) gl) => l1Consistent_any u2 u3 _ _ gj gl W h1 h2 (wf_of_vld HVj.out) (wf_of_vld HVl.out))
  have HC2 := hid (fun (W : World) (h1 : u.At W (.agg #[.int .i64 kx, .slice ax nx cx]) gx) => l1Consistent_any u tB _ _ gx [] W h1 (leaf_ty W 3) (wf_of_vld HVx.out) (wf_of_vld vld_B))
  have HM := hid (show cons u2 u3 = true → ∀ (W : World), u2.At W (.agg #[.int .i64 kj, .slice aj nj cj]) gj → u3.At W (.agg #[.int .i64 kl, .slice al nl cl]) gl → Calls Tryd.prog 74 #[.agg #[.int .i64 kj, .slice aj nj cj], .agg #[.int .i64 kl, .slice al nl cl]] W (MadeT W (meet u2 u3)) from fun h W h1 h2 => l1Meet_any u2 u3 _ _ gj gl W h1 h2 (wf_of_vld HVj.out) (wf_of_vld HVl.out) h (shp_cnt8 HVj.out (by omega)) (shp_cnt8 HVl.out (by omega)))
  generalize cons u tB = V at *
  generalize hcc : cons u2 u3 = cc at *
  clear hcc
  go_enter Tryd.func115, Tryd.ntmps115
  go_wp2_with fail
  generalize ((w.alloc (Obj.cells #[.int .i64 9, .string nm, .int .i64 num, .int .i64 k1, .slice a1 n1 c1, .int .i64 k2, .slice a2 n2 c2, .int .i64 lb, .slice a3 ts.length c3] 35)).alloc (Obj.cells #[.int .i64 0, .slice none 0 0] 32)) = Z at *
  have hzS : w.heap.size + 1 < Z.heap.size := by rw [HSZ.out]; omega
  cases cc with
  | false =>
    refine regionL (s := 6) (S0 := (fun w' => w'.cell? ⟨bx, ox, none⟩ = some (.int .i64 kx) ∧ w'.cell? ⟨bx, ox + 1, none⟩ = some (.slice ax nx cx) ∧ w'.cell? ⟨bx, ox + 2, none⟩ = some (.int .i64 kj) ∧ w'.cell? ⟨bx, ox + 2 + 1, none⟩ = some (.slice aj nj cj) ∧ w'.cell? ⟨bx, ox + 4, none⟩ = some (.int .i64 kl) ∧ w'.cell? ⟨bx, ox + 4 + 1, none⟩ = some (.slice al nl cl))) (S1 := (fun _ => True)) (by kernel_rfl) (HS.out _ (below_drew Z)) (trivial) (fun hS0 => ?_)
    refine takeL (i := 0) (v := ?vd91) rfl (by kernel_rfl) (by kernel_rfl) (by kernel_rfl) (by decide) (fun _ _ _ h => h) (Or.inl ⟨by rfl, ?hyd91⟩) (by assumption) ?_
    case hyd91 => (intro w hSw; (try dsimp only at hSw); go_simp; (try with_reducible rfl))
    try simp only [Act.put, List.setIfInBounds_toArray, List.set_cons_zero, List.set_cons_succ]
    refine takeL (i := 1) (v := ?vd92) rfl (by kernel_rfl) (by kernel_rfl) (by kernel_rfl) (by decide) (fun _ _ _ h => h) (Or.inl ⟨by rfl, ?hyd92⟩) (by assumption) ?_
    case hyd92 => (intro w hSw; (try dsimp only at hSw); go_simp; (try with_reducible rfl))
    try simp only [Act.put, List.setIfInBounds_toArray, List.set_cons_zero, List.set_cons_succ]
    refine takeL0 (i := 2) (v := ?vd93) rfl rfl (by kernel_rfl) (by kernel_rfl) (by kernel_rfl) (by decide) (by kernel_rfl) (by kernel_rfl) (fun _ _ _ h => h) (Or.inl ⟨by rfl, ?hyd93⟩) (by assumption) ?_
    case hyd93 => (intro w hSw; (try dsimp only at hSw); go_simp; (try with_reducible rfl))
    try simp only [Act.put, List.setIfInBounds_toArray, List.set_cons_zero, List.set_cons_succ]
    refine takeL (i := 3) (v := ?vd94) rfl (by kernel_rfl) (by kernel_rfl) (by kernel_rfl) (by decide) (fun _ _ _ h => h) (Or.inl ⟨by rfl, ?hyd94⟩) (by assumption) ?_
    case hyd94 => (intro w hSw; (try dsimp only at hSw); go_simp; (try with_reducible rfl))
    try simp only [Act.put, List.setIfInBounds_toArray, List.set_cons_zero, List.set_cons_succ]
    refine takeL (i := 4) (v := ?vd95) rfl (by kernel_rfl) (by kernel_rfl) (by kernel_rfl) (by decide) (fun _ _ _ h => h) (Or.inl ⟨by rfl, ?hyd95⟩) (by assumption) ?_
    case hyd95 => (intro w hSw; (try dsimp only at hSw); go_simp; (try with_reducible rfl))
    try simp only [Act.put, List.setIfInBounds_toArray, List.set_cons_zero, List.set_cons_succ]
    refine takeL0 (i := 5) (v := ?vd96) rfl rfl (by kernel_rfl) (by kernel_rfl) (by kernel_rfl) (by decide) (by kernel_rfl) (by kernel_rfl) (fun _ _ _ h => h) (Or.inl ⟨by rfl, ?hyd96⟩) (by assumption) ?_
    case hyd96 => (intro w hSw; (try dsimp only at hSw); go_simp; (try with_reducible rfl))
    try simp only [Act.put, List.setIfInBounds_toArray, List.set_cons_zero, List.set_cons_succ]
    refine readyL (rs := [6]) (by kernel_rfl) (by simp) ?_
    refine AllReadyL.cons rfl (fun K hK => ?_) AllReadyL.nil
    go_simp
    refine (HC1.out _ (HKj.out _ (below_drew Z)) (HKl.out _ (below_drew Z))).mono ?_
    rintro e y6 ⟨rfl, hy6⟩
    have hk6 : Below Z.heap.size Z y6 := below_trans (below_drew Z) hy6
    refine hK.out _ _ ?_ (fun hS1 => ?_)
    · exact ⟨trivial, fun h => absurd (h.symm.trans (show _ = true by kernel_rfl)) (by decide)⟩
    clear hK K hS0
    try simp only [Act.put, List.setIfInBounds_toArray, List.set_cons_zero, List.set_cons_succ]
    refine takeL (i := 7) (v := ?vd97) rfl (by kernel_rfl) (by kernel_rfl) (by kernel_rfl) (by decide) (fun _ _ _ h => h) (Or.inl ⟨by rfl, ?hyd97⟩) (by assumption) ?_
    case hyd97 => (intro w hSw; (try dsimp only at hSw); go_simp; (try with_reducible rfl))
    try simp only [Act.put, List.setIfInBounds_toArray, List.set_cons_zero, List.set_cons_succ]
    refine doneL (by kernel_rfl) ?_ _
    have qq := (hk6.block _ (lt_of_block HQ.out)).trans HQ.out
    have r0 : y6.cell? ⟨w.heap.size + 1, 0, none⟩ = some (.int .i64 0) := by rw [cell_of_block qq]; rfl
    have r1 : y6.cell? ⟨w.heap.size + 1, 1, none⟩ = some (.slice none 0 0) := by rw [cell_of_block qq]; rfl
    have rz := fun o => frozen_of_block (o := o) qq
    have rl := lt_of_block qq
    have FIN := hid (MadeTO.stored (w := w) (P := w.heap.size + 1) (o := resM 9 ty [u, u2, u3]) (T := (.mk 0 [])) (fun x h => by rw [HR1.out rfl] at h; cases h) (by rw [HR1.out rfl] <;> rfl) (leaf_ty _ 0) (Fresh.nil _ _) (by omega) (by omega) (below_trans HB.out hk6))
    clear HS HSP HB HQ
    go_wp2_with fail
    exact bodyPost_ret (v := .tuple #[.agg #[.int .i64 0, .slice none 0 0], .bool false]) (by simp [results, Tryd.results115, go_sem, r0, r1]) rfl (by first | exact FIN.out | (rw [HRES.out]; exact FIN.out))
  | true =>
    refine regionL (s := 6) (S0 := (fun w' => w'.cell? ⟨bx, ox, none⟩ = some (.int .i64 kx) ∧ w'.cell? ⟨bx, ox + 1, none⟩ = some (.slice ax nx cx) ∧ w'.cell? ⟨bx, ox + 2, none⟩ = some (.int .i64 kj) ∧ w'.cell? ⟨bx, ox + 2 + 1, none⟩ = some (.slice aj nj cj) ∧ w'.cell? ⟨bx, ox + 4, none⟩ = some (.int .i64 kl) ∧ w'.cell? ⟨bx, ox + 4 + 1, none⟩ = some (.slice al nl cl))) (S1 := (fun _ => True)) (by kernel_rfl) (HS.out _ (below_drew Z)) (trivial) (fun hS0 => ?_)
    refine takeL (i := 0) (v := ?vf91) rfl (by kernel_rfl) (by kernel_rfl) (by kernel_rfl) (by decide) (fun _ _ _ h => h) (Or.inl ⟨by rfl, ?hyf91⟩) (by assumption) ?_
    case hyf91 => (intro w hSw; (try dsimp only at hSw); go_simp; (try with_reducible rfl))
    try simp only [Act.put, List.setIfInBounds_toArray, List.set_cons_zero, List.set_cons_succ]
    refine takeL (i := 1) (v := ?vf92) rfl (by kernel_rfl) (by kernel_rfl) (by kernel_rfl) (by decide) (fun _ _ _ h => h) (Or.inl ⟨by rfl, ?hyf92⟩) (by assumption) ?_
    case hyf92 => (intro w hSw; (try dsimp only at hSw); go_simp; (try with_reducible rfl))
    try simp only [Act.put, List.setIfInBounds_toArray, List.set_cons_zero, List.set_cons_succ]
    refine takeL0 (i := 2) (v := ?vf93) rfl rfl (by kernel_rfl) (by kernel_rfl) (by kernel_rfl) (by decide) (by kernel_rfl) (by kernel_rfl) (fun _ _ _ h => h) (Or.inl ⟨by rfl, ?hyf93⟩) (by assumption) ?_
    case hyf93 => (intro w hSw; (try dsimp only at hSw); go_simp; (try with_reducible rfl))
    try simp only [Act.put, List.setIfInBounds_toArray, List.set_cons_zero, List.set_cons_succ]
    refine takeL (i := 3) (v := ?vf94) rfl (by kernel_rfl) (by kernel_rfl) (by kernel_rfl) (by decide) (fun _ _ _ h => h) (Or.inl ⟨by rfl, ?hyf94⟩) (by assumption) ?_
    case hyf94 => (intro w hSw; (try dsimp only at hSw); go_simp; (try with_reducible rfl))
    try simp only [Act.put, List.setIfInBounds_toArray, List.set_cons_zero, List.set_cons_succ]
    refine takeL (i := 4) (v := ?vf95) rfl (by kernel_rfl) (by kernel_rfl) (by kernel_rfl) (by decide) (fun _ _ _ h => h) (Or.inl ⟨by rfl, ?hyf95⟩) (by assumption) ?_
    case hyf95 => (intro w hSw; (try dsimp only at hSw); go_simp; (try with_reducible rfl))
    try simp only [Act.put, List.setIfInBounds_toArray, List.set_cons_zero, List.set_cons_succ]
    refine takeL0 (i := 5) (v := ?vf96) rfl rfl (by kernel_rfl) (by kernel_rfl) (by kernel_rfl) (by decide) (by kernel_rfl) (by kernel_rfl) (fun _ _ _ h => h) (Or.inl ⟨by rfl, ?hyf96⟩) (by assumption) ?_
    case hyf96 => (intro w hSw; (try dsimp only at hSw); go_simp; (try with_reducible rfl))
    try simp only [Act.put, List.setIfInBounds_toArray, List.set_cons_zero, List.set_cons_succ]
    refine readyL (rs := [6]) (by kernel_rfl) (by simp) ?_
    refine AllReadyL.cons rfl (fun K hK => ?_) AllReadyL.nil
    go_simp
    refine (HC1.out _ (HKj.out _ (below_drew Z)) (HKl.out _ (below_drew Z))).mono ?_
    rintro e y6 ⟨rfl, hy6⟩
    have hk6 : Below Z.heap.size Z y6 := below_trans (below_drew Z) hy6
    refine hK.out _ _ ?_ (fun hS1 => ?_)
    · exact ⟨trivial, fun h => absurd (h.symm.trans (show _ = true by kernel_rfl)) (by decide)⟩
    clear hK K hS0
    try simp only [Act.put, List.setIfInBounds_toArray, List.set_cons_zero, List.set_cons_succ]
    refine takeL (i := 7) (v := ?vf97) rfl (by kernel_rfl) (by kernel_rfl) (by kernel_rfl) (by decide) (fun _ _ _ h => h) (Or.inl ⟨by rfl, ?hyf97⟩) (by assumption) ?_
    case hyf97 => (intro w hSw; (try dsimp only at hSw); go_simp; (try with_reducible rfl))
    try simp only [Act.put, List.setIfInBounds_toArray, List.set_cons_zero, List.set_cons_succ]
    refine doneL (by kernel_rfl) ?_ _
    go_upto_region 12 with (fail)
    refine regionL (s := 13) (S0 := (fun w' => w'.cell? ⟨bx, ox, none⟩ = some (.int .i64 kx) ∧ w'.cell? ⟨bx, ox + 1, none⟩ = some (.slice ax nx cx) ∧ w'.cell? ⟨bx, ox + 2, none⟩ = some (.int .i64 kj) ∧ w'.cell? ⟨bx, ox + 2 + 1, none⟩ = some (.slice aj nj cj) ∧ w'.cell? ⟨bx, ox + 4, none⟩ = some (.int .i64 kl) ∧ w'.cell? ⟨bx, ox + 4 + 1, none⟩ = some (.slice al nl cl))) (S1 := (fun _ => True)) (by kernel_rfl) (HS.out _ hk6.drew) (trivial) (fun hS0 => ?_)
    refine takeL0 (i := 0) (v := ?ve91) rfl rfl (by kernel_rfl) (by kernel_rfl) (by kernel_rfl) (by decide) (by kernel_rfl) (by kernel_rfl) (fun _ _ _ h => h) (Or.inl ⟨by rfl, ?hye91⟩) (by assumption) ?_
    case hye91 => (intro w hSw; (try dsimp only at hSw); go_simp; (try with_reducible rfl))
    try simp only [Act.put, List.setIfInBounds_toArray, List.set_cons_zero, List.set_cons_succ]
    refine takeL0 (i := 1) (v := ?ve92) rfl rfl (by kernel_rfl) (by kernel_rfl) (by kernel_rfl) (by decide) (by kernel_rfl) (by kernel_rfl) (fun _ _ _ h => h) (Or.inl ⟨by rfl, ?hye92⟩) (by assumption) ?_
    case hye92 => (intro w hSw; (try dsimp only at hSw); go_simp; (try with_reducible rfl))
    try simp only [Act.put, List.setIfInBounds_toArray, List.set_cons_zero, List.set_cons_succ]
    refine takeL0 (i := 2) (v := ?ve93) rfl rfl (by kernel_rfl) (by kernel_rfl) (by kernel_rfl) (by decide) (by kernel_rfl) (by kernel_rfl) (fun _ _ _ h => h) (Or.inl ⟨by rfl, ?hye93⟩) (by assumption) ?_
    case hye93 => (intro w hSw; (try dsimp only at hSw); go_simp; (try with_reducible rfl))
    try simp only [Act.put, List.setIfInBounds_toArray, List.set_cons_zero, List.set_cons_succ]
    refine takeL0 (i := 3) (v := ?ve94) rfl rfl (by kernel_rfl) (by kernel_rfl) (by kernel_rfl) (by decide) (by kernel_rfl) (by kernel_rfl) (fun _ _ _ h => h) (Or.inl ⟨by rfl, ?hye94⟩) (by assumption) ?_
    case hye94 => (intro w hSw; (try dsimp only at hSw); go_simp; (try with_reducible rfl))
    try simp only [Act.put, List.setIfInBounds_toArray, List.set_cons_zero, List.set_cons_succ]
    refine takeL0 (i := 4) (v := ?ve95) rfl rfl (by kernel_rfl) (by kernel_rfl) (by kernel_rfl) (by decide) (by kernel_rfl) (by kernel_rfl) (fun _ _ _ h => h) (Or.inl ⟨by rfl, ?hye95⟩) (by assumption) ?_
    case hye95 => (intro w hSw; (try dsimp only at hSw); go_simp; (try with_reducible rfl))
    try simp only [Act.put, List.setIfInBounds_toArray, List.set_cons_zero, List.set_cons_succ]
    refine takeL0 (i := 5) (v := ?ve96) rfl rfl (by kernel_rfl) (by kernel_rfl) (by kernel_rfl) (by decide) (by kernel_rfl) (by kernel_rfl) (fun _ _ _ h => h) (Or.inl ⟨by rfl, ?hye96⟩) (by assumption) ?_
    case hye96 => (intro w hSw; (try dsimp only at hSw); go_simp; (try with_reducible rfl))
    try simp only [Act.put, List.setIfInBounds_toArray, List.set_cons_zero, List.set_cons_succ]
    refine takeL0 (i := 7) (v := ?ve97) rfl rfl (by kernel_rfl) (by kernel_rfl) (by kernel_rfl) (by decide) (by kernel_rfl) (by kernel_rfl) (fun _ _ _ h => h) (Or.inl ⟨by rfl, ?hye97⟩) (by assumption) ?_
    case hye97 => (intro w hSw; (try dsimp only at hSw); go_simp; (try with_reducible rfl))
    try simp only [Act.put, List.setIfInBounds_toArray, List.set_cons_zero, List.set_cons_succ]
    refine takeL0 (i := 8) (v := ?ve98) rfl rfl (by kernel_rfl) (by kernel_rfl) (by kernel_rfl) (by decide) (by kernel_rfl) (by kernel_rfl) (fun _ _ _ h => h) (Or.inl ⟨by rfl, ?hye98⟩) (by assumption) ?_
    case hye98 => (intro w hSw; (try dsimp only at hSw); go_simp; (try with_reducible rfl))
    try simp only [Act.put, List.setIfInBounds_toArray, List.set_cons_zero, List.set_cons_succ]
    refine takeL0 (i := 9) (v := ?ve99) rfl rfl (by kernel_rfl) (by kernel_rfl) (by kernel_rfl) (by decide) (by kernel_rfl) (by kernel_rfl) (fun _ _ _ h => h) (Or.inl ⟨by rfl, ?hye99⟩) (by assumption) ?_
    case hye99 => (intro w hSw; (try dsimp only at hSw); go_simp; (try with_reducible rfl))
    try simp only [Act.put, List.setIfInBounds_toArray, List.set_cons_zero, List.set_cons_succ]
    refine readyL (rs := [6]) (by kernel_rfl) (by simp) ?_
    refine AllReadyL.cons rfl (fun K hK => ?_) AllReadyL.nil
    go_simp
    refine (HM.out rfl _ (HKj.out _ hk6.drew) (HKl.out _ hk6.drew)).mono ?_
    rintro e v6 ⟨vm, fm, rfl, hatm, hfm, hv6⟩
    have hkv6 : Below Z.heap.size Z v6 := below_trans hk6.drew hv6
    obtain ⟨k6, n6, a6, c6, rfl⟩ := hatm.agg
    refine hK.out _ _ ?_ (fun hS1 => ?_)
    · exact ⟨trivial, fun _ => HS.out _ hkv6⟩
    clear hK K hS0
    try simp only [Act.put, List.setIfInBounds_toArray, List.set_cons_zero, List.set_cons_succ]
    refine readyL (rs := [10]) (by kernel_rfl) (by simp) ?_
    refine AllReadyL.cons rfl (fun K hK => ?_) AllReadyL.nil
    go_simp
    refine (l3Bool_any _).mono ?_
    rintro e v10 ⟨rfl, hv10⟩
    have hkv10 : Below Z.heap.size Z v10 := below_trans hkv6 hv10
    refine hK.out _ _ ?_ (fun hS2 => ?_)
    · exact ⟨trivial, fun _ => HS.out _ hkv10⟩
    clear hK K hS1
    try simp only [Act.put, List.setIfInBounds_toArray, List.set_cons_zero, List.set_cons_succ]
    refine readyL (rs := [11]) (by kernel_rfl) (by simp) ?_
    refine AllReadyL.cons rfl (fun K hK => ?_) AllReadyL.nil
    go_simp
    refine (HC2.out _ (HKx.out _ hkv10)).mono ?_
    rintro e v11 ⟨rfl, hv11⟩
    have hkv11 : Below Z.heap.size Z v11 := below_trans hkv10 hv11
    refine hK.out _ _ ?_ (fun hS3 => ?_)
    · exact ⟨trivial, fun _ => HS.out _ hkv11⟩
    clear hK K hS2
    try simp only [Act.put, List.setIfInBounds_toArray, List.set_cons_zero, List.set_cons_succ]
    refine readyL (rs := [12]) (by kernel_rfl) (by simp) ?_
    refine AllReadyL.cons rfl (fun K hK => ?_) AllReadyL.nil
    have qq := (hkv11.block _ (lt_of_block HQ.out)).trans HQ.out
    have r0 : v11.cell? ⟨w.heap.size + 1, 0, none⟩ = some (.int .i64 0) := by rw [cell_of_block qq]; rfl
    have r1 : v11.cell? ⟨w.heap.size + 1, 1, none⟩ = some (.slice none 0 0) := by rw [cell_of_block qq]; rfl
    have rz := fun o => frozen_of_block (o := o) qq
    have rl := lt_of_block qq
    go_simp
    refine hK.out _ _ ?_ (fun hS4 => ?_)
    · exact ⟨trivial, fun _ => HSP.out v11 _ _ hkv11⟩
    clear hK K hS3
    try simp only [Act.put, List.setIfInBounds_toArray, List.set_cons_zero, List.set_cons_succ]
    refine readyL (rs := [13]) (by kernel_rfl) (by simp) ?_
    refine AllReadyL.cons rfl (fun K hK => ?_) AllReadyL.nil
    go_simp
    refine hK.out _ _ ?_ (fun hS5 => ?_)
    · exact ⟨trivial, fun h => absurd (h.symm.trans (show _ = true by kernel_rfl)) (by decide)⟩
    clear hK K hS4
    try simp only [Act.put, List.setIfInBounds_toArray, List.set_cons_zero, List.set_cons_succ]
    refine doneL (by kernel_rfl) ?_ _
    have FIN := hid (MadeTO.stored (w := w) (P := w.heap.size + 1) (o := resM 9 ty [u, u2, u3]) (T := (meet u2 u3)) (HR2.out rfl) (HR3.out rfl) ((hatm.below hv10).below hv11) (((hfm.below hv10).below hv11).mono (hk6.drew).size) (by omega) (by omega) (below_trans HB.out hkv11))
    clear HS HSP HB HQ
    go_wp2_with fail
    exact bodyPost_ret (v := .tuple #[.agg #[.int .i64 k6, .slice a6 n6 c6], .bool V]) (by simp [results, Tryd.results115, go_sem, r0, r1]) rfl (by first | exact FIN.out | (rw [HRES.out]; exact FIN.out))

set_option maxRecDepth 100000 in
set_option maxHeartbeats 4000000 in
theorem res_6 : ReC 6 := by
  intro nm num ty fr lb ts v fe us s fu w hat hus hlen hvl hty
  obtain ⟨k1, n1, a1, c1, k2, n2, a2, c2, a3, c3, f1, f2, f3, rfl, hnm, ht1, ht2, rfl, hs3⟩ := hat.parts
  have HB := hid (show Below w.heap.size w ((w.alloc (Obj.cells #[.int .i64 6, .string nm, .int .i64 num, .int .i64 k1, .slice a1 n1 c1, .int .i64 k2, .slice a2 n2 c2, .int .i64 lb, .slice a3 ts.length c3] 35)).alloc (Obj.cells #[.int .i64 0, .slice none 0 0] 32)) from ((Below.refl _ _).alloc (Nat.le_refl _) _).alloc (by simp) _)
  have HSZ := hid (show ((w.alloc (Obj.cells #[.int .i64 6, .string nm, .int .i64 num, .int .i64 k1, .slice a1 n1 c1, .int .i64 k2, .slice a2 n2 c2, .int .i64 lb, .slice a3 ts.length c3] 35)).alloc (Obj.cells #[.int .i64 0, .slice none 0 0] 32)).heap.size = w.heap.size + 1 + 1 by simp)
  have HQ := hid (two_out (Below.refl _ ((w.alloc (Obj.cells #[.int .i64 6, .string nm, .int .i64 num, .int .i64 k1, .slice a1 n1 c1, .int .i64 k2, .slice a2 n2 c2, .int .i64 lb, .slice a3 ts.length c3] 35)).alloc (Obj.cells #[.int .i64 0, .slice none 0 0] 32)))).2
  obtain ⟨z0, z1, z2, z3, z4, z5, z6, z7, z8⟩ := cells9 (two_out (Below.refl _ ((w.alloc (Obj.cells #[.int .i64 6, .string nm, .int .i64 num, .int .i64 k1, .slice a1 n1 c1, .int .i64 k2, .slice a2 n2 c2, .int .i64 lb, .slice a3 ts.length c3] 35)).alloc (Obj.cells #[.int .i64 0, .slice none 0 0] 32)))).1
  obtain ⟨u, u2, rfl⟩ : ∃ a b, us = [a, b] := by
    have hl0 : us.length = 2 := by have : kidsM 6 = 2 := (by decide); omega
    match us, hl0 with
    | [a, b], _ => exact ⟨a, b, rfl⟩
  obtain ⟨sa, sc, hss, hcap, hmx, hget⟩ := hus.openA
  subst hss
  obtain ⟨bx, ox, kx, nx, ax, cx, gx, hpx, hltx, ex0, ex1, hkx, -⟩ := hget 0 (by simp)
  obtain ⟨bj, oj, kj, nj, aj, cj, gj, hpj, hltj, ej0, ej1, hkj, -⟩ := hget 1 (by simp)
  rw [hpx] at hpj
  simp only [Option.some.injEq, Addr.mk.injEq, and_true] at hpj
  obtain ⟨rfl, rfl⟩ := hpj
  subst hpx
  simp (config := { failIfUnchanged := false }) only [Nat.zero_mul, Nat.add_zero, Nat.one_mul, List.getElem_cons_zero, List.getElem_cons_succ] at ex0 ex1 hkx ej0 ej1 hkj
  replace ex0 := cell_keep ex0 HB.out
  replace ex1 := cell_keep ex1 HB.out
  have HVx := hid (hvl u (by simp))
  have HKx := hid (fun (W : World) (h : Below ((w.alloc (Obj.cells #[.int .i64 6, .string nm, .int .i64 num, .int .i64 k1, .slice a1 n1 c1, .int .i64 k2, .slice a2 n2 c2, .int .i64 lb, .slice a3 ts.length c3] 35)).alloc (Obj.cells #[.int .i64 0, .slice none 0 0] 32)).heap.size ((w.alloc (Obj.cells #[.int .i64 6, .string nm, .int .i64 num, .int .i64 k1, .slice a1 n1 c1, .int .i64 k2, .slice a2 n2 c2, .int .i64 lb, .slice a3 ts.length c3] 35)).alloc (Obj.cells #[.int .i64 0, .slice none 0 0] 32)) W) => hkx.below (below_trans HB.out h))
  replace ej0 := cell_keep ej0 HB.out
  replace ej1 := cell_keep ej1 HB.out
  have HVj := hid (hvl u2 (by simp))
  have HKj := hid (fun (W : World) (h : Below ((w.alloc (Obj.cells #[.int .i64 6, .string nm, .int .i64 num, .int .i64 k1, .slice a1 n1 c1, .int .i64 k2, .slice a2 n2 c2, .int .i64 lb, .slice a3 ts.length c3] 35)).alloc (Obj.cells #[.int .i64 0, .slice none 0 0] 32)).heap.size ((w.alloc (Obj.cells #[.int .i64 6, .string nm, .int .i64 num, .int .i64 k1, .slice a1 n1 c1, .int .i64 k2, .slice a2 n2 c2, .int .i64 lb, .slice a3 ts.length c3] 35)).alloc (Obj.cells #[.int .i64 0, .slice none 0 0] 32)) W) => hkj.below (below_trans HB.out h))
  have HT1 := hid (fun (W : World) (h : Below ((w.alloc (Obj.cells #[.int .i64 6, .string nm, .int .i64 num, .int .i64 k1, .slice a1 n1 c1, .int .i64 k2, .slice a2 n2 c2, .int .i64 lb, .slice a3 ts.length c3] 35)).alloc (Obj.cells #[.int .i64 0, .slice none 0 0] 32)).heap.size ((w.alloc (Obj.cells #[.int .i64 6, .string nm, .int .i64 num, .int .i64 k1, .slice a1 n1 c1, .int .i64 k2, .slice a2 n2 c2, .int .i64 lb, .slice a3 ts.length c3] 35)).alloc (Obj.cells #[.int .i64 0, .slice none 0 0] 32)) W) => ht1.below (below_trans HB.out h))
  have HTY := hid hty
  have HS := hid (fun (W : World) (h : Below ((w.alloc (Obj.cells #[.int .i64 6, .string nm, .int .i64 num, .int .i64 k1, .slice a1 n1 c1, .int .i64 k2, .slice a2 n2 c2, .int .i64 lb, .slice a3 ts.length c3] 35)).alloc (Obj.cells #[.int .i64 0, .slice none 0 0] 32)).heap.size ((w.alloc (Obj.cells #[.int .i64 6, .string nm, .int .i64 num, .int .i64 k1, .slice a1 n1 c1, .int .i64 k2, .slice a2 n2 c2, .int .i64 lb, .slice a3 ts.length c3] 35)).alloc (Obj.cells #[.int .i64 0, .slice none 0 0] 32)) W) => (show W.cell? ⟨bx, ox, none⟩ = some (.int .i64 kx) ∧ W.cell? ⟨bx, ox + 1, none⟩ = some (.slice ax nx cx) ∧ W.cell? ⟨bx, ox + 2, none⟩ = some (.int .i64 kj) ∧ W.cell? ⟨bx, ox + 2 + 1, none⟩ = some (.slice aj nj cj) from ⟨cell_keep ex0 h, cell_keep ex1 h, cell_keep ej0 h, cell_keep ej1 h⟩))
  have HSP := hid (fun (W : World) (x y : Value) (h : Below ((w.alloc (Obj.cells #[.int .i64 6, .string nm, .int .i64 num, .int .i64 k1, .slice a1 n1 c1, .int .i64 k2, .slice a2 n2 c2, .int .i64 lb, .slice a3 ts.length c3] 35)).alloc (Obj.cells #[.int .i64 0, .slice none 0 0] 32)).heap.size ((w.alloc (Obj.cells #[.int .i64 6, .string nm, .int .i64 num, .int .i64 k1, .slice a1 n1 c1, .int .i64 k2, .slice a2 n2 c2, .int .i64 lb, .slice a3 ts.length c3] 35)).alloc (Obj.cells #[.int .i64 0, .slice none 0 0] 32)) W) => (show ((W.setCell ⟨w.heap.size + 1, 0, none⟩ x).setCell ⟨w.heap.size + 1, 1, none⟩ y).cell? ⟨bx, ox, none⟩ = some (.int .i64 kx) ∧ ((W.setCell ⟨w.heap.size + 1, 0, none⟩ x).setCell ⟨w.heap.size + 1, 1, none⟩ y).cell? ⟨bx, ox + 1, none⟩ = some (.slice ax nx cx) ∧ ((W.setCell ⟨w.heap.size + 1, 0, none⟩ x).setCell ⟨w.heap.size + 1, 1, none⟩ y).cell? ⟨bx, ox + 2, none⟩ = some (.int .i64 kj) ∧ ((W.setCell ⟨w.heap.size + 1, 0, none⟩ x).setCell ⟨w.heap.size + 1, 1, none⟩ y).cell? ⟨bx, ox + 2 + 1, none⟩ = some (.slice aj nj cj) from ⟨two_keepS (cell_keep ex0 h) (by omega) _ _, two_keepS (cell_keep ex1 h) (by omega) _ _, two_keepS (cell_keep ej0 h) (by omega) _ _, two_keepS (cell_keep ej1 h) (by omega) _ _⟩))
  clear hat hus hlen hvl hs3 ht1 ht2 hget hcap hmx hty hkx hkj
  have HR0 := hid (show mtOk 4 u = false → resM 6 ty [u, u2] = none from fun h => by simp [resM, nth, h])
  have HR2 := hid (show mtOk 4 u = true → ∀ x, resM 6 ty [u, u2] = some x → mtOf 4 1 u = x from fun h x hx => by
    have h' : (if (mtOk 4 u && cons u2 (mtOf 4 0 u)) = true then some (mtOf 4 1 u) else none) = some x := hx
    rw [h, Bool.true_and] at h'
    by_cases hv : cons u2 (mtOf 4 0 u) = true
    · rw [if_pos hv] at h'; cases h'; rfl
    · rw [if_neg hv] at h'; cases h')
  have HR3 := hid (show mtOk 4 u = true → (resM 6 ty [u, u2]).isSome = cons u2 (mtOf 4 0 u) from fun h => by
    have h' : resM 6 ty [u, u2] = (if (mtOk 4 u && cons u2 (mtOf 4 0 u)) = true then some (mtOf 4 1 u) else none) := rfl
    rw [h', h, Bool.true_and]
    cases cons u2 (mtOf 4 0 u) <;> rfl)
  have HM := hid (fun (W : World) (h1 : u.At W (.agg #[.int .i64 kx, .slice ax nx cx]) gx) => l3Match_any 4 (.inl rfl) u _ gx W h1 (shp_cnt8 HVx.out (by omega)) HVx.out)
  have HC2 := hid (show mtOk 4 u = true → ∀ (W : World) (v0 : Value) (g0 : List Nat), u2.At W (.agg #[.int .i64 kj, .slice aj nj cj]) gj → (mtOf 4 0 u).At W v0 g0 → Calls Tryd.prog 73 #[.agg #[.int .i64 kj, .slice aj nj cj], v0] W fun e w' => e = .returned (.bool (cons u2 (mtOf 4 0 u))) ∧ Below W.heap.size W w' from
    fun h W v0 g0 h1 h2 => l1Consistent_any u2 (mtOf 4 0 u) _ v0 gj g0 W h1 h2 (wf_of_vld HVj.out) (wf_of_vld (mt_parts (.inl rfl) h).1))
  generalize cons u2 (mtOf 4 0 u) = cc at *
  generalize mtOf 4 0 u = T0 at *
  generalize mtOf 4 1 u = T1 at *
  generalize mtOk 4 u = V at *
  go_enter Tryd.func115, Tryd.ntmps115
  go_wp2_with fail
  generalize ((w.alloc (Obj.cells #[.int .i64 6, .string nm, .int .i64 num, .int .i64 k1, .slice a1 n1 c1, .int .i64 k2, .slice a2 n2 c2, .int .i64 lb, .slice a3 ts.length c3] 35)).alloc (Obj.cells #[.int .i64 0, .slice none 0 0] 32)) = Z at *
  have hzS : w.heap.size + 1 < Z.heap.size := by rw [HSZ.out]; omega
  refine (HM.out _ (HKx.out _ (Below.refl _ _))).mono ?_
  rintro e y1 ⟨v1, v2, e1, e2, M, rfl, h1, h2, hf1, hf2, -, -, -, -, hy1⟩
  obtain ⟨q1, m1, p1, d1, rfl⟩ := h1.agg
  obtain ⟨q2, m2, p2, d2, rfl⟩ := h2.agg
  have hbx : Below y1.heap.size y1 ((y1.alloc (Obj.cells #[.int .i64 q1, .slice p1 m1 d1] 32)).alloc (Obj.cells #[.int .i64 q2, .slice p2 m2 d2] 32)) := ((Below.refl _ _).alloc (Nat.le_refl _) _).alloc (by simp) _
  have hk1' : Below Z.heap.size Z ((y1.alloc (Obj.cells #[.int .i64 q1, .slice p1 m1 d1] 32)).alloc (Obj.cells #[.int .i64 q2, .slice p2 m2 d2] 32)) := below_trans hy1 hbx
  obtain ⟨g1, g2, -⟩ := fin_a (y := y1) (Obj.cells #[.int .i64 q1, .slice p1 m1 d1] 32) (Obj.cells #[.int .i64 q2, .slice p2 m2 d2] 32)
  have t0 : ((y1.alloc (Obj.cells #[.int .i64 q1, .slice p1 m1 d1] 32)).alloc (Obj.cells #[.int .i64 q2, .slice p2 m2 d2] 32)).cell? ⟨y1.heap.size, 0, none⟩ = some (.int .i64 q1) := by rw [cell_of_block g1]; rfl
  have t1 : ((y1.alloc (Obj.cells #[.int .i64 q1, .slice p1 m1 d1] 32)).alloc (Obj.cells #[.int .i64 q2, .slice p2 m2 d2] 32)).cell? ⟨y1.heap.size, 1, none⟩ = some (.slice p1 m1 d1) := by rw [cell_of_block g1]; rfl
  have t2 : ((y1.alloc (Obj.cells #[.int .i64 q1, .slice p1 m1 d1] 32)).alloc (Obj.cells #[.int .i64 q2, .slice p2 m2 d2] 32)).cell? ⟨y1.heap.size + 1, 0, none⟩ = some (.int .i64 q2) := by rw [cell_of_block g2]; rfl
  have t3 : ((y1.alloc (Obj.cells #[.int .i64 q1, .slice p1 m1 d1] 32)).alloc (Obj.cells #[.int .i64 q2, .slice p2 m2 d2] 32)).cell? ⟨y1.heap.size + 1, 1, none⟩ = some (.slice p2 m2 d2) := by rw [cell_of_block g2]; rfl
  have j0 := cell_keep ej0 hk1'
  have j1 := cell_keep ej1 hk1'
  have hs1 := hy1.size
  have HQQ := hid ((hk1'.block _ (lt_of_block HQ.out)).trans HQ.out)
  have H1 := hid (h1.below hbx)
  have H2 := hid (And.intro (h2.below hbx) (hf2.below hbx))
  have HK1 := hid hk1'
  have HKJ := hid (HKj.out _ hk1')
  obtain ⟨Q, hQd⟩ : ∃ Q, Q = ((y1.alloc (Obj.cells #[.int .i64 q1, .slice p1 m1 d1] 32)).alloc (Obj.cells #[.int .i64 q2, .slice p2 m2 d2] 32)) := ⟨_, rfl⟩
  rw [← hQd] at t0 t1 t2 t3 j0 j1 HQQ H1 H2 HK1 HKJ
  have HSq := hid (fun (W : World) (h : Below Q.heap.size Q W) => (show W.cell? ⟨y1.heap.size, 0, none⟩ = some (.int .i64 q1) ∧ W.cell? ⟨y1.heap.size, 1, none⟩ = some (.slice p1 m1 d1) ∧ W.cell? ⟨y1.heap.size + 1, 0, none⟩ = some (.int .i64 q2) ∧ W.cell? ⟨y1.heap.size + 1, 1, none⟩ = some (.slice p2 m2 d2) ∧ W.cell? ⟨bx, ox + 2, none⟩ = some (.int .i64 kj) ∧ W.cell? ⟨bx, ox + 2 + 1, none⟩ = some (.slice aj nj cj) from ⟨cell_keep t0 h, cell_keep t1 h, cell_keep t2 h, cell_keep t3 h, cell_keep j0 h, cell_keep j1 h⟩))
  have HSPq := hid (fun (W : World) (x y : Value) (h : Below Q.heap.size Q W) => (show ((W.setCell ⟨w.heap.size + 1, 0, none⟩ x).setCell ⟨w.heap.size + 1, 1, none⟩ y).cell? ⟨y1.heap.size, 0, none⟩ = some (.int .i64 q1) ∧ ((W.setCell ⟨w.heap.size + 1, 0, none⟩ x).setCell ⟨w.heap.size + 1, 1, none⟩ y).cell? ⟨y1.heap.size, 1, none⟩ = some (.slice p1 m1 d1) ∧ ((W.setCell ⟨w.heap.size + 1, 0, none⟩ x).setCell ⟨w.heap.size + 1, 1, none⟩ y).cell? ⟨y1.heap.size + 1, 0, none⟩ = some (.int .i64 q2) ∧ ((W.setCell ⟨w.heap.size + 1, 0, none⟩ x).setCell ⟨w.heap.size + 1, 1, none⟩ y).cell? ⟨y1.heap.size + 1, 1, none⟩ = some (.slice p2 m2 d2) ∧ ((W.setCell ⟨w.heap.size + 1, 0, none⟩ x).setCell ⟨w.heap.size + 1, 1, none⟩ y).cell? ⟨bx, ox + 2, none⟩ = some (.int .i64 kj) ∧ ((W.setCell ⟨w.heap.size + 1, 0, none⟩ x).setCell ⟨w.heap.size + 1, 1, none⟩ y).cell? ⟨bx, ox + 2 + 1, none⟩ = some (.slice aj nj cj) from ⟨two_keepS (cell_keep t0 h) (by omega) _ _, two_keepS (cell_keep t1 h) (by omega) _ _, two_keepS (cell_keep t2 h) (by omega) _ _, two_keepS (cell_keep t3 h) (by omega) _ _, two_keepS (cell_keep j0 h) (by omega) _ _, two_keepS (cell_keep j1 h) (by omega) _ _⟩))
  have HSDq := hid (fun (x y : Value) => (show ((Q.setCell ⟨w.heap.size + 1, 0, none⟩ x).setCell ⟨w.heap.size + 1, 1, none⟩ y).drew.cell? ⟨y1.heap.size, 0, none⟩ = some (.int .i64 q1) ∧ ((Q.setCell ⟨w.heap.size + 1, 0, none⟩ x).setCell ⟨w.heap.size + 1, 1, none⟩ y).drew.cell? ⟨y1.heap.size, 1, none⟩ = some (.slice p1 m1 d1) ∧ ((Q.setCell ⟨w.heap.size + 1, 0, none⟩ x).setCell ⟨w.heap.size + 1, 1, none⟩ y).drew.cell? ⟨y1.heap.size + 1, 0, none⟩ = some (.int .i64 q2) ∧ ((Q.setCell ⟨w.heap.size + 1, 0, none⟩ x).setCell ⟨w.heap.size + 1, 1, none⟩ y).drew.cell? ⟨y1.heap.size + 1, 1, none⟩ = some (.slice p2 m2 d2) ∧ ((Q.setCell ⟨w.heap.size + 1, 0, none⟩ x).setCell ⟨w.heap.size + 1, 1, none⟩ y).drew.cell? ⟨bx, ox + 2, none⟩ = some (.int .i64 kj) ∧ ((Q.setCell ⟨w.heap.size + 1, 0, none⟩ x).setCell ⟨w.heap.size + 1, 1, none⟩ y).drew.cell? ⟨bx, ox + 2 + 1, none⟩ = some (.slice aj nj cj) from (fun h => ⟨cell_keep h.1 (below_drew _), cell_keep h.2.1 (below_drew _), cell_keep h.2.2.1 (below_drew _), cell_keep h.2.2.2.1 (below_drew _), cell_keep h.2.2.2.2.1 (below_drew _), cell_keep h.2.2.2.2.2 (below_drew _)⟩ : (((Q.setCell ⟨w.heap.size + 1, 0, none⟩ x).setCell ⟨w.heap.size + 1, 1, none⟩ y).cell? ⟨y1.heap.size, 0, none⟩ = some (.int .i64 q1) ∧ ((Q.setCell ⟨w.heap.size + 1, 0, none⟩ x).setCell ⟨w.heap.size + 1, 1, none⟩ y).cell? ⟨y1.heap.size, 1, none⟩ = some (.slice p1 m1 d1) ∧ ((Q.setCell ⟨w.heap.size + 1, 0, none⟩ x).setCell ⟨w.heap.size + 1, 1, none⟩ y).cell? ⟨y1.heap.size + 1, 0, none⟩ = some (.int .i64 q2) ∧ ((Q.setCell ⟨w.heap.size + 1, 0, none⟩ x).setCell ⟨w.heap.size + 1, 1, none⟩ y).cell? ⟨y1.heap.size + 1, 1, none⟩ = some (.slice p2 m2 d2) ∧ ((Q.setCell ⟨w.heap.size + 1, 0, none⟩ x).setCell ⟨w.heap.size + 1, 1, none⟩ y).cell? ⟨bx, ox + 2, none⟩ = some (.int .i64 kj) ∧ ((Q.setCell ⟨w.heap.size + 1, 0, none⟩ x).setCell ⟨w.heap.size + 1, 1, none⟩ y).cell? ⟨bx, ox + 2 + 1, none⟩ = some (.slice aj nj cj)) → _) (HSPq.out Q x y (Below.refl _ _))))
  clear h1 h2 hf1 hbx hk1' g1 g2 hf2 HS HSP HQ HM HKx HKj HT1
  go_wp2_with fail
  rw [← hQd]
  clear hQd
  cases V with
  | false =>
    refine regionL (s := 10) (S0 := (fun w' => w'.cell? ⟨y1.heap.size, 0, none⟩ = some (.int .i64 q1) ∧ w'.cell? ⟨y1.heap.size, 1, none⟩ = some (.slice p1 m1 d1) ∧ w'.cell? ⟨y1.heap.size + 1, 0, none⟩ = some (.int .i64 q2) ∧ w'.cell? ⟨y1.heap.size + 1, 1, none⟩ = some (.slice p2 m2 d2) ∧ w'.cell? ⟨bx, ox + 2, none⟩ = some (.int .i64 kj) ∧ w'.cell? ⟨bx, ox + 2 + 1, none⟩ = some (.slice aj nj cj))) (S1 := (fun _ => True)) (by kernel_rfl) (HSq.out _ (below_drew Q)) (trivial) (fun hS0 => ?_)
    refine takeL0 (i := 0) (v := ?vg61) rfl rfl (by kernel_rfl) (by kernel_rfl) (by kernel_rfl) (by decide) (by kernel_rfl) (by kernel_rfl) (fun _ _ _ h => h) (Or.inl ⟨by rfl, ?hyg61⟩) (by assumption) ?_
    case hyg61 => (intro w hSw; (try dsimp only at hSw); go_simp; (try with_reducible rfl))
    try simp only [Act.put, List.setIfInBounds_toArray, List.set_cons_zero, List.set_cons_succ]
    refine takeL0 (i := 1) (v := ?vg62) rfl rfl (by kernel_rfl) (by kernel_rfl) (by kernel_rfl) (by decide) (by kernel_rfl) (by kernel_rfl) (fun _ _ _ h => h) (Or.inl ⟨by rfl, ?hyg62⟩) (by assumption) ?_
    case hyg62 => (intro w hSw; (try dsimp only at hSw); go_simp; (try with_reducible rfl))
    try simp only [Act.put, List.setIfInBounds_toArray, List.set_cons_zero, List.set_cons_succ]
    refine takeL0 (i := 2) (v := ?vg63) rfl rfl (by kernel_rfl) (by kernel_rfl) (by kernel_rfl) (by decide) (by kernel_rfl) (by kernel_rfl) (fun _ _ _ h => h) (Or.inl ⟨by rfl, ?hyg63⟩) (by assumption) ?_
    case hyg63 => (intro w hSw; (try dsimp only at hSw); go_simp; (try with_reducible rfl))
    try simp only [Act.put, List.setIfInBounds_toArray, List.set_cons_zero, List.set_cons_succ]
    refine takeL0 (i := 3) (v := undef) rfl rfl (by kernel_rfl) (by kernel_rfl) (by kernel_rfl) (by decide) (by kernel_rfl) (by kernel_rfl) (fun _ _ _ h => h) (Or.inr ⟨by rfl, rfl⟩) (by assumption) ?_
    try simp only [Act.put, List.setIfInBounds_toArray, List.set_cons_zero, List.set_cons_succ]
    refine takeL0 (i := 4) (v := undef) rfl rfl (by kernel_rfl) (by kernel_rfl) (by kernel_rfl) (by decide) (by kernel_rfl) (by kernel_rfl) (fun _ _ _ h => h) (Or.inr ⟨by rfl, rfl⟩) (by assumption) ?_
    try simp only [Act.put, List.setIfInBounds_toArray, List.set_cons_zero, List.set_cons_succ]
    refine takeL0 (i := 5) (v := undef) rfl rfl (by kernel_rfl) (by kernel_rfl) (by kernel_rfl) (by decide) (by kernel_rfl) (by kernel_rfl) (fun _ _ _ h => h) (Or.inr ⟨by rfl, rfl⟩) (by assumption) ?_
    try simp only [Act.put, List.setIfInBounds_toArray, List.set_cons_zero, List.set_cons_succ]
    refine takeL0 (i := 6) (v := undef) rfl rfl (by kernel_rfl) (by kernel_rfl) (by kernel_rfl) (by decide) (by kernel_rfl) (by kernel_rfl) (fun _ _ _ h => h) (Or.inr ⟨by rfl, rfl⟩) (by assumption) ?_
    try simp only [Act.put, List.setIfInBounds_toArray, List.set_cons_zero, List.set_cons_succ]
    refine takeL0 (i := 7) (v := undef) rfl rfl (by kernel_rfl) (by kernel_rfl) (by kernel_rfl) (by decide) (by kernel_rfl) (by kernel_rfl) (fun _ _ _ h => h) (Or.inr ⟨by rfl, rfl⟩) (by assumption) ?_
    try simp only [Act.put, List.setIfInBounds_toArray, List.set_cons_zero, List.set_cons_succ]
    refine takeL0 (i := 8) (v := ?vg69) rfl rfl (by kernel_rfl) (by kernel_rfl) (by kernel_rfl) (by decide) (by kernel_rfl) (by kernel_rfl) (fun _ _ _ h => h) (Or.inl ⟨by rfl, ?hyg69⟩) (by assumption) ?_
    case hyg69 => (intro w hSw; (try dsimp only at hSw); go_simp; (try with_reducible rfl))
    try simp only [Act.put, List.setIfInBounds_toArray, List.set_cons_zero, List.set_cons_succ]
    refine readyL (rs := [9]) (by kernel_rfl) (by simp) ?_
    refine AllReadyL.cons rfl (fun K hK => ?_) AllReadyL.nil
    have qq := ((Below.refl Q.heap.size Q).block _ (lt_of_block HQQ.out)).trans HQQ.out
    have r0 : Q.cell? ⟨w.heap.size + 1, 0, none⟩ = some (.int .i64 0) := by rw [cell_of_block qq]; rfl
    have r1 : Q.cell? ⟨w.heap.size + 1, 1, none⟩ = some (.slice none 0 0) := by rw [cell_of_block qq]; rfl
    have rz := fun o => frozen_of_block (o := o) qq
    have rl := lt_of_block qq
    go_simp
    refine hK.out _ _ ?_ (fun hS1 => ?_)
    · exact ⟨trivial, fun _ => HSDq.out _ _ ⟩
    clear hK K hS0
    try simp only [Act.put, List.setIfInBounds_toArray, List.set_cons_zero, List.set_cons_succ]
    refine readyL (rs := [10]) (by kernel_rfl) (by simp) ?_
    refine AllReadyL.cons rfl (fun K hK => ?_) AllReadyL.nil
    go_simp
    refine hK.out _ _ ?_ (fun hS2 => ?_)
    · exact ⟨trivial, fun h => absurd (h.symm.trans (show _ = true by kernel_rfl)) (by decide)⟩
    clear hK K hS1
    try simp only [Act.put, List.setIfInBounds_toArray, List.set_cons_zero, List.set_cons_succ]
    refine doneL (by kernel_rfl) ?_ _
    have FIN := hid (MadeTO.stored (w := w) (P := w.heap.size + 1) (o := resM 6 ty [u, u2]) (T := T1) (fun x h => by rw [HR0.out rfl] at h; cases h) (by rw [HR0.out rfl] <;> rfl) (H2.out.1.below (Below.refl Q.heap.size Q)) (H2.out.2.below (Below.refl Q.heap.size Q)) (by omega) (by omega) (below_trans HB.out (below_trans HK1.out (Below.refl Q.heap.size Q))))
    replace FIN := hid FIN.out.drew
    clear HSq HSPq HSDq HB HQQ
    go_wp2_with fail
    exact bodyPost_ret (v := .tuple #[.agg #[.int .i64 q2, .slice p2 m2 d2], .bool false]) (by simp [results, Tryd.results115, go_sem, r0, r1]) rfl FIN.out
  | true =>
    refine regionL (s := 10) (S0 := (fun w' => w'.cell? ⟨y1.heap.size, 0, none⟩ = some (.int .i64 q1) ∧ w'.cell? ⟨y1.heap.size, 1, none⟩ = some (.slice p1 m1 d1) ∧ w'.cell? ⟨y1.heap.size + 1, 0, none⟩ = some (.int .i64 q2) ∧ w'.cell? ⟨y1.heap.size + 1, 1, none⟩ = some (.slice p2 m2 d2) ∧ w'.cell? ⟨bx, ox + 2, none⟩ = some (.int .i64 kj) ∧ w'.cell? ⟨bx, ox + 2 + 1, none⟩ = some (.slice aj nj cj))) (S1 := (fun _ => True)) (by kernel_rfl) (HSq.out _ (below_drew Q)) (trivial) (fun hS0 => ?_)
    refine takeL0 (i := 0) (v := ?vh61) rfl rfl (by kernel_rfl) (by kernel_rfl) (by kernel_rfl) (by decide) (by kernel_rfl) (by kernel_rfl) (fun _ _ _ h => h) (Or.inl ⟨by rfl, ?hyh61⟩) (by assumption) ?_
    case hyh61 => (intro w hSw; (try dsimp only at hSw); go_simp; (try with_reducible rfl))
    try simp only [Act.put, List.setIfInBounds_toArray, List.set_cons_zero, List.set_cons_succ]
    refine takeL0 (i := 1) (v := ?vh62) rfl rfl (by kernel_rfl) (by kernel_rfl) (by kernel_rfl) (by decide) (by kernel_rfl) (by kernel_rfl) (fun _ _ _ h => h) (Or.inl ⟨by rfl, ?hyh62⟩) (by assumption) ?_
    case hyh62 => (intro w hSw; (try dsimp only at hSw); go_simp; (try with_reducible rfl))
    try simp only [Act.put, List.setIfInBounds_toArray, List.set_cons_zero, List.set_cons_succ]
    refine takeL0 (i := 2) (v := ?vh63) rfl rfl (by kernel_rfl) (by kernel_rfl) (by kernel_rfl) (by decide) (by kernel_rfl) (by kernel_rfl) (fun _ _ _ h => h) (Or.inl ⟨by rfl, ?hyh63⟩) (by assumption) ?_
    case hyh63 => (intro w hSw; (try dsimp only at hSw); go_simp; (try with_reducible rfl))
    try simp only [Act.put, List.setIfInBounds_toArray, List.set_cons_zero, List.set_cons_succ]
    refine takeL0 (i := 3) (v := ?vh64) rfl rfl (by kernel_rfl) (by kernel_rfl) (by kernel_rfl) (by decide) (by kernel_rfl) (by kernel_rfl) (fun _ _ _ h => h) (Or.inl ⟨by rfl, ?hyh64⟩) (by assumption) ?_
    case hyh64 => (intro w hSw; (try dsimp only at hSw); go_simp; (try with_reducible rfl))
    try simp only [Act.put, List.setIfInBounds_toArray, List.set_cons_zero, List.set_cons_succ]
    refine takeL0 (i := 4) (v := ?vh65) rfl rfl (by kernel_rfl) (by kernel_rfl) (by kernel_rfl) (by decide) (by kernel_rfl) (by kernel_rfl) (fun _ _ _ h => h) (Or.inl ⟨by rfl, ?hyh65⟩) (by assumption) ?_
    case hyh65 => (intro w hSw; (try dsimp only at hSw); go_simp; (try with_reducible rfl))
    try simp only [Act.put, List.setIfInBounds_toArray, List.set_cons_zero, List.set_cons_succ]
    refine takeL0 (i := 5) (v := ?vh66) rfl rfl (by kernel_rfl) (by kernel_rfl) (by kernel_rfl) (by decide) (by kernel_rfl) (by kernel_rfl) (fun _ _ _ h => h) (Or.inl ⟨by rfl, ?hyh66⟩) (by assumption) ?_
    case hyh66 => (intro w hSw; (try dsimp only at hSw); go_simp; (try with_reducible rfl))
    try simp only [Act.put, List.setIfInBounds_toArray, List.set_cons_zero, List.set_cons_succ]
    refine takeL0 (i := 6) (v := ?vh67) rfl rfl (by kernel_rfl) (by kernel_rfl) (by kernel_rfl) (by decide) (by kernel_rfl) (by kernel_rfl) (fun _ _ _ h => h) (Or.inl ⟨by rfl, ?hyh67⟩) (by assumption) ?_
    case hyh67 => (intro w hSw; (try dsimp only at hSw); go_simp; (try with_reducible rfl))
    try simp only [Act.put, List.setIfInBounds_toArray, List.set_cons_zero, List.set_cons_succ]
    refine readyL (rs := [7]) (by kernel_rfl) (by simp) ?_
    refine AllReadyL.cons rfl (fun K hK => ?_) AllReadyL.nil
    go_simp
    refine (HC2.out rfl _ _ _ (HKJ.out.below (below_drew Q)) (H1.out.below (below_drew Q))).mono ?_
    rintro e q7 ⟨rfl, hq7⟩
    have hkq7 : Below Q.heap.size Q q7 := below_trans (below_drew Q) hq7
    refine hK.out _ _ ?_ (fun hS1 => ?_)
    · exact ⟨trivial, fun _ => HSq.out _ hkq7⟩
    clear hK K hS0
    try simp only [Act.put, List.setIfInBounds_toArray, List.set_cons_zero, List.set_cons_succ]
    refine takeL0 (i := 8) (v := ?vh68) rfl rfl (by kernel_rfl) (by kernel_rfl) (by kernel_rfl) (by decide) (by kernel_rfl) (by kernel_rfl) (fun _ _ _ h => h) (Or.inl ⟨by rfl, ?hyh68⟩) (by assumption) ?_
    case hyh68 => (intro w hSw; (try dsimp only at hSw); go_simp; (try with_reducible rfl))
    try simp only [Act.put, List.setIfInBounds_toArray, List.set_cons_zero, List.set_cons_succ]
    refine readyL (rs := [9]) (by kernel_rfl) (by simp) ?_
    refine AllReadyL.cons rfl (fun K hK => ?_) AllReadyL.nil
    have qq := (hkq7.block _ (lt_of_block HQQ.out)).trans HQQ.out
    have r0 : q7.cell? ⟨w.heap.size + 1, 0, none⟩ = some (.int .i64 0) := by rw [cell_of_block qq]; rfl
    have r1 : q7.cell? ⟨w.heap.size + 1, 1, none⟩ = some (.slice none 0 0) := by rw [cell_of_block qq]; rfl
    have rz := fun o => frozen_of_block (o := o) qq
    have rl := lt_of_block qq
    go_simp
    refine hK.out _ _ ?_ (fun hS2 => ?_)
    · exact ⟨trivial, fun _ => HSPq.out q7 _ _ hkq7⟩
    clear hK K hS1
    try simp only [Act.put, List.setIfInBounds_toArray, List.set_cons_zero, List.set_cons_succ]
    refine readyL (rs := [10]) (by kernel_rfl) (by simp) ?_
    refine AllReadyL.cons rfl (fun K hK => ?_) AllReadyL.nil
    go_simp
    refine hK.out _ _ ?_ (fun hS3 => ?_)
    · exact ⟨trivial, fun h => absurd (h.symm.trans (show _ = true by kernel_rfl)) (by decide)⟩
    clear hK K hS2
    try simp only [Act.put, List.setIfInBounds_toArray, List.set_cons_zero, List.set_cons_succ]
    refine doneL (by kernel_rfl) ?_ _
    have FIN := hid (MadeTO.stored (w := w) (P := w.heap.size + 1) (o := resM 6 ty [u, u2]) (T := T1) (HR2.out rfl) (HR3.out rfl) (H2.out.1.below hkq7) (H2.out.2.below hkq7) (by omega) (by omega) (below_trans HB.out (below_trans HK1.out hkq7)))
    clear HSq HSPq HSDq HB HQQ
    go_wp2_with fail
    exact bodyPost_ret (v := .tuple #[.agg #[.int .i64 q2, .slice p2 m2 d2], .bool cc]) (by simp [results, Tryd.results115, go_sem, r0, r1]) rfl FIN.out

theorem res_any {k : Int} (h1 : 6 ≤ k) (h2 : k ≤ 13) : ReC k := by
  have h : k = 6 ∨ k = 7 ∨ k = 8 ∨ k = 9 ∨ k = 10 ∨ k = 11 ∨ k = 12 ∨ k = 13 := by omega
  rcases h with rfl | rfl | rfl | rfl | rfl | rfl | rfl | rfl
  · exact res_6
  · exact res_7
  · exact res_8
  · exact res_9
  · exact res_10
  · exact res_11
  · exact res_12
  · exact res_13
end Go.Proofs.YtffmpjcjmffdeaaDoor
