/- The specification's l4Exact: applications, selections; every kind. -/
import Derived.Test.YtffmpjcjmffdeaaDoorRTe1
namespace Go.Proofs.YtffmpjcjmffdeaaDoor
open Go.RowKit

set_option maxRecDepth 100000 in
set_option maxHeartbeats 4000000 in
theorem ex_6n : ∀ (nm : ByteArray) (num : Int) (ty fr : Ty) (lb : Int) (ts : List Tm) (v : Value) (fe : List Nat) (us : List Ty) (s : Value) (fu : List Nat) (w : World),
  Tm.At w (.mk 6 nm num ty fr lb ts) v fe → SlAt w us s fu → kidsM 6 = (us.length : Int) → (∀ u ∈ us, vld u = true) → ((6 : Int) = 14 → vld ty = true ∧ vld fr = true) → knd (nth us 0) ≠ 4 →
  Calls Tryd.prog 121 #[v, s] w (MadeTO w (resE 6 ty fr us)) := by
  intro nm num ty fr lb ts v fe us s fu w hat hus hlen hvl hty hkd
  obtain ⟨k1, n1, a1, c1, k2, n2, a2, c2, a3, c3, f1, f2, f3, rfl, hnm, ht1, ht2, rfl, hs3⟩ := hat.parts
  have HB := hid (show Below w.heap.size w ((w.alloc (Obj.cells #[.int .i64 6, .string nm, .int .i64 num, .int .i64 k1, .slice a1 n1 c1, .int .i64 k2, .slice a2 n2 c2, .int .i64 lb, .slice a3 ts.length c3] 35)).alloc (Obj.cells #[.int .i64 0, .slice none 0 0] 32)) from ((Below.refl _ _).alloc (Nat.le_refl _) _).alloc (by simp) _)
  have HSZ := hid (show ((w.alloc (Obj.cells #[.int .i64 6, .string nm, .int .i64 num, .int .i64 k1, .slice a1 n1 c1, .int .i64 k2, .slice a2 n2 c2, .int .i64 lb, .slice a3 ts.length c3] 35)).alloc (Obj.cells #[.int .i64 0, .slice none 0 0] 32)).heap.size = w.heap.size + 1 + 1 by simp)
  have HQ := hid (two_out (Below.refl _ ((w.alloc (Obj.cells #[.int .i64 6, .string nm, .int .i64 num, .int .i64 k1, .slice a1 n1 c1, .int .i64 k2, .slice a2 n2 c2, .int .i64 lb, .slice a3 ts.length c3] 35)).alloc (Obj.cells #[.int .i64 0, .slice none 0 0] 32)))).2
  obtain ⟨z0, z1, z2, z3, z4, z5, z6, z7, z8⟩ := cells9 (two_out (Below.refl _ ((w.alloc (Obj.cells #[.int .i64 6, .string nm, .int .i64 num, .int .i64 k1, .slice a1 n1 c1, .int .i64 k2, .slice a2 n2 c2, .int .i64 lb, .slice a3 ts.length c3] 35)).alloc (Obj.cells #[.int .i64 0, .slice none 0 0] 32)))).1
  obtain ⟨u, u2, rfl⟩ : ∃ a b, us = [a, b] := by
    have hl0 : us.length = 2 := by have : kidsM 6 = 2 := (by decide); omega
    match us, hl0 with
    | [a, b], _ => exact ⟨a, b, rfl⟩
  obtain ⟨sa, sc, hss, hcap, hmx, hget⟩ := hus.openA
  subst hss
  obtain ⟨bx, ox, kx, nx, ax, cx, gx, hpx, hltx, ex0, ex1, hkx, -⟩ := hget 0 (by simp)
  obtain ⟨bj, oj, kj, nj, aj, cj, gj, hpj, hltj, ej0, ej1, hkj, -⟩ := hget 1 (by simp)
  rw [hpx] at hpj
  simp only [Option.some.injEq, Addr.mk.injEq, and_true] at hpj
  obtain ⟨rfl, rfl⟩ := hpj
  subst hpx
  simp (config := { failIfUnchanged := false }) only [Nat.zero_mul, Nat.add_zero, Nat.one_mul, List.getElem_cons_zero, List.getElem_cons_succ] at ex0 ex1 hkx ej0 ej1 hkj
  have hkk : (kx == 4) = false := by
    obtain ⟨ku, tsu, rfl⟩ := u.shape
    obtain ⟨s', e, -⟩ := Ty.at_mk.1 hkx
    simp only [Value.agg.injEq, Array.mk.injEq, List.cons.injEq, Value.int.injEq, true_and, and_true] at e
    obtain ⟨rfl, -⟩ := e
    have h : ¬ kx = 4 := hkd
    simpa using h
  have hkn : ¬ kx = 4 := by simpa using hkk
  have hkm : (kx != 4) = true := by rw [bne, hkk]; rfl
  replace ex0 := cell_keep ex0 HB.out
  replace ex1 := cell_keep ex1 HB.out
  have HVx := hid (hvl u (by simp))
  have HKx := hid (fun (W : World) (h : Below ((w.alloc (Obj.cells #[.int .i64 6, .string nm, .int .i64 num, .int .i64 k1, .slice a1 n1 c1, .int .i64 k2, .slice a2 n2 c2, .int .i64 lb, .slice a3 ts.length c3] 35)).alloc (Obj.cells #[.int .i64 0, .slice none 0 0] 32)).heap.size ((w.alloc (Obj.cells #[.int .i64 6, .string nm, .int .i64 num, .int .i64 k1, .slice a1 n1 c1, .int .i64 k2, .slice a2 n2 c2, .int .i64 lb, .slice a3 ts.length c3] 35)).alloc (Obj.cells #[.int .i64 0, .slice none 0 0] 32)) W) => hkx.below (below_trans HB.out h))
  replace ej0 := cell_keep ej0 HB.out
  replace ej1 := cell_keep ej1 HB.out
  have HVj := hid (hvl u2 (by simp))
  have HKj := hid (fun (W : World) (h : Below ((w.alloc (Obj.cells #[.int .i64 6, .string nm, .int .i64 num, .int .i64 k1, .slice a1 n1 c1, .int .i64 k2, .slice a2 n2 c2, .int .i64 lb, .slice a3 ts.length c3] 35)).alloc (Obj.cells #[.int .i64 0, .slice none 0 0] 32)).heap.size ((w.alloc (Obj.cells #[.int .i64 6, .string nm, .int .i64 num, .int .i64 k1, .slice a1 n1 c1, .int .i64 k2, .slice a2 n2 c2, .int .i64 lb, .slice a3 ts.length c3] 35)).alloc (Obj.cells #[.int .i64 0, .slice none 0 0] 32)) W) => hkj.below (below_trans HB.out h))
  have HT1 := hid (fun (W : World) (h : Below ((w.alloc (Obj.cells #[.int .i64 6, .string nm, .int .i64 num, .int .i64 k1, .slice a1 n1 c1, .int .i64 k2, .slice a2 n2 c2, .int .i64 lb, .slice a3 ts.length c3] 35)).alloc (Obj.cells #[.int .i64 0, .slice none 0 0] 32)).heap.size ((w.alloc (Obj.cells #[.int .i64 6, .string nm, .int .i64 num, .int .i64 k1, .slice a1 n1 c1, .int .i64 k2, .slice a2 n2 c2, .int .i64 lb, .slice a3 ts.length c3] 35)).alloc (Obj.cells #[.int .i64 0, .slice none 0 0] 32)) W) => ht1.below (below_trans HB.out h))
  have HT2 := hid (fun (W : World) (h : Below ((w.alloc (Obj.cells #[.int .i64 6, .string nm, .int .i64 num, .int .i64 k1, .slice a1 n1 c1, .int .i64 k2, .slice a2 n2 c2, .int .i64 lb, .slice a3 ts.length c3] 35)).alloc (Obj.cells #[.int .i64 0, .slice none 0 0] 32)).heap.size ((w.alloc (Obj.cells #[.int .i64 6, .string nm, .int .i64 num, .int .i64 k1, .slice a1 n1 c1, .int .i64 k2, .slice a2 n2 c2, .int .i64 lb, .slice a3 ts.length c3] 35)).alloc (Obj.cells #[.int .i64 0, .slice none 0 0] 32)) W) => ht2.below (below_trans HB.out h))
  have HTY := hid hty
  have HS := hid (fun (W : World) (h : Below ((w.alloc (Obj.cells #[.int .i64 6, .string nm, .int .i64 num, .int .i64 k1, .slice a1 n1 c1, .int .i64 k2, .slice a2 n2 c2, .int .i64 lb, .slice a3 ts.length c3] 35)).alloc (Obj.cells #[.int .i64 0, .slice none 0 0] 32)).heap.size ((w.alloc (Obj.cells #[.int .i64 6, .string nm, .int .i64 num, .int .i64 k1, .slice a1 n1 c1, .int .i64 k2, .slice a2 n2 c2, .int .i64 lb, .slice a3 ts.length c3] 35)).alloc (Obj.cells #[.int .i64 0, .slice none 0 0] 32)) W) => (show W.cell? ⟨bx, ox, none⟩ = some (.int .i64 kx) ∧ W.cell? ⟨bx, ox + 1, none⟩ = some (.slice ax nx cx) ∧ W.cell? ⟨bx, ox + 2, none⟩ = some (.int .i64 kj) ∧ W.cell? ⟨bx, ox + 2 + 1, none⟩ = some (.slice aj nj cj) from ⟨cell_keep ex0 h, cell_keep ex1 h, cell_keep ej0 h, cell_keep ej1 h⟩))
  have HSP := hid (fun (W : World) (x y : Value) (h : Below ((w.alloc (Obj.cells #[.int .i64 6, .string nm, .int .i64 num, .int .i64 k1, .slice a1 n1 c1, .int .i64 k2, .slice a2 n2 c2, .int .i64 lb, .slice a3 ts.length c3] 35)).alloc (Obj.cells #[.int .i64 0, .slice none 0 0] 32)).heap.size ((w.alloc (Obj.cells #[.int .i64 6, .string nm, .int .i64 num, .int .i64 k1, .slice a1 n1 c1, .int .i64 k2, .slice a2 n2 c2, .int .i64 lb, .slice a3 ts.length c3] 35)).alloc (Obj.cells #[.int .i64 0, .slice none 0 0] 32)) W) => (show ((W.setCell ⟨w.heap.size + 1, 0, none⟩ x).setCell ⟨w.heap.size + 1, 1, none⟩ y).cell? ⟨bx, ox, none⟩ = some (.int .i64 kx) ∧ ((W.setCell ⟨w.heap.size + 1, 0, none⟩ x).setCell ⟨w.heap.size + 1, 1, none⟩ y).cell? ⟨bx, ox + 1, none⟩ = some (.slice ax nx cx) ∧ ((W.setCell ⟨w.heap.size + 1, 0, none⟩ x).setCell ⟨w.heap.size + 1, 1, none⟩ y).cell? ⟨bx, ox + 2, none⟩ = some (.int .i64 kj) ∧ ((W.setCell ⟨w.heap.size + 1, 0, none⟩ x).setCell ⟨w.heap.size + 1, 1, none⟩ y).cell? ⟨bx, ox + 2 + 1, none⟩ = some (.slice aj nj cj) from ⟨two_keepS (cell_keep ex0 h) (by omega) _ _, two_keepS (cell_keep ex1 h) (by omega) _ _, two_keepS (cell_keep ej0 h) (by omega) _ _, two_keepS (cell_keep ej1 h) (by omega) _ _⟩))
  clear hat hus hlen hvl hs3 ht1 ht2 hget hcap hmx hty hkx hkj
  have HR0 := hid (show resE 6 ty fr [u, u2] = none from by
    have hb : (knd u == 4) = false := by rw [beq_eq_false_iff_ne]; exact hkd
    simp [resE, nth, hb])
  clear hkd
  go_enter Tryd.func121, Tryd.ntmps121
  go_wp2_with fail
  generalize ((w.alloc (Obj.cells #[.int .i64 6, .string nm, .int .i64 num, .int .i64 k1, .slice a1 n1 c1, .int .i64 k2, .slice a2 n2 c2, .int .i64 lb, .slice a3 ts.length c3] 35)).alloc (Obj.cells #[.int .i64 0, .slice none 0 0] 32)) = Z at *
  have hzS : w.heap.size + 1 < Z.heap.size := by rw [HSZ.out]; omega
  refine regionL (s := 17) (S0 := (fun _ => True)) (S1 := (fun w' => w'.cell? ⟨bx, ox, none⟩ = some (.int .i64 kx) ∧ w'.cell? ⟨bx, ox + 1, none⟩ = some (.slice ax nx cx) ∧ w'.cell? ⟨bx, ox + 2, none⟩ = some (.int .i64 kj) ∧ w'.cell? ⟨bx, ox + 2 + 1, none⟩ = some (.slice aj nj cj))) (by kernel_rfl) (trivial) (HS.out _ (below_drew Z)) (fun hS0 => ?_)
  refine takeL (i := 0) (v := ?va61) rfl (by kernel_rfl) (by kernel_rfl) (by kernel_rfl) (by decide) (fun _ _ _ h => h) (Or.inl ⟨by rfl, ?hya61⟩) (by assumption) ?_
  case hya61 => (intro w hSw; (try dsimp only at hSw); go_simp; (try with_reducible rfl))
  try simp only [Act.put, List.setIfInBounds_toArray, List.set_cons_zero, List.set_cons_succ]
  refine takeL (i := 1) (v := ?va62) rfl (by kernel_rfl) (by kernel_rfl) (by kernel_rfl) (by decide) (fun _ _ _ h => h) (Or.inl ⟨by rfl, ?hya62⟩) (by assumption) ?_
  case hya62 => (intro w hSw; (try dsimp only at hSw); go_simp; (try with_reducible rfl))
  try simp only [Act.put, List.setIfInBounds_toArray, List.set_cons_zero, List.set_cons_succ]
  refine takeL (i := 2) (v := ?va63) rfl (by kernel_rfl) (by kernel_rfl) (by kernel_rfl) (by decide) (fun _ _ _ h => h) (Or.inl ⟨by rfl, ?hya63⟩) (by assumption) ?_
  case hya63 => (intro w hSw; (try dsimp only at hSw); go_simp; (try with_reducible rfl))
  try simp only [Act.put, List.setIfInBounds_toArray, List.set_cons_zero, List.set_cons_succ]
  refine takeL (i := 3) (v := ?va64) rfl (by kernel_rfl) (by kernel_rfl) (by kernel_rfl) (by decide) (fun _ _ _ h => h) (Or.inl ⟨by rfl, ?hya64⟩) (by assumption) ?_
  case hya64 => (intro w hSw; (try dsimp only at hSw); go_simp; (try with_reducible rfl))
  try simp only [Act.put, List.setIfInBounds_toArray, List.set_cons_zero, List.set_cons_succ]
  refine takeL (i := 4) (v := ?va65) rfl (by kernel_rfl) (by kernel_rfl) (by kernel_rfl) (by decide) (fun _ _ _ h => h) (Or.inl ⟨by rfl, ?hya65⟩) (by assumption) ?_
  case hya65 => (intro w hSw; (try dsimp only at hSw); go_simp; (try with_reducible rfl))
  try simp only [Act.put, List.setIfInBounds_toArray, List.set_cons_zero, List.set_cons_succ]
  refine takeL0 (i := 5) (v := ?va66) rfl rfl (by kernel_rfl) (by kernel_rfl) (by kernel_rfl) (by decide) (by kernel_rfl) (by kernel_rfl) (fun _ _ _ h => h) (Or.inl ⟨by rfl, ?hya66⟩) (by assumption) ?_
  case hya66 => (intro w hSw; (try dsimp only at hSw); go_simp; (try with_reducible rfl))
  try simp only [Act.put, List.setIfInBounds_toArray, List.set_cons_zero, List.set_cons_succ]
  refine takeL (i := 6) (v := undef) rfl (by kernel_rfl) (by kernel_rfl) (by kernel_rfl) (by decide) (fun _ _ _ h => h) (Or.inr ⟨by rfl, rfl⟩) (by assumption) ?_
  try simp only [Act.put, List.setIfInBounds_toArray, List.set_cons_zero, List.set_cons_succ]
  refine takeL (i := 7) (v := undef) rfl (by kernel_rfl) (by kernel_rfl) (by kernel_rfl) (by decide) (fun _ _ _ h => h) (Or.inr ⟨by rfl, rfl⟩) (by assumption) ?_
  try simp only [Act.put, List.setIfInBounds_toArray, List.set_cons_zero, List.set_cons_succ]
  refine takeL (i := 8) (v := undef) rfl (by kernel_rfl) (by kernel_rfl) (by kernel_rfl) (by decide) (fun _ _ _ h => h) (Or.inr ⟨by rfl, rfl⟩) (by assumption) ?_
  try simp only [Act.put, List.setIfInBounds_toArray, List.set_cons_zero, List.set_cons_succ]
  refine takeL (i := 9) (v := undef) rfl (by kernel_rfl) (by kernel_rfl) (by kernel_rfl) (by decide) (fun _ _ _ h => h) (Or.inr ⟨by rfl, rfl⟩) (by assumption) ?_
  try simp only [Act.put, List.setIfInBounds_toArray, List.set_cons_zero, List.set_cons_succ]
  refine takeL (i := 10) (v := undef) rfl (by kernel_rfl) (by kernel_rfl) (by kernel_rfl) (by decide) (fun _ _ _ h => h) (Or.inr ⟨by rfl, rfl⟩) (by assumption) ?_
  try simp only [Act.put, List.setIfInBounds_toArray, List.set_cons_zero, List.set_cons_succ]
  refine takeL (i := 11) (v := undef) rfl (by kernel_rfl) (by kernel_rfl) (by kernel_rfl) (by decide) (fun _ _ _ h => h) (Or.inr ⟨by rfl, rfl⟩) (by assumption) ?_
  try simp only [Act.put, List.setIfInBounds_toArray, List.set_cons_zero, List.set_cons_succ]
  refine takeL (i := 12) (v := undef) rfl (by kernel_rfl) (by kernel_rfl) (by kernel_rfl) (by decide) (fun _ _ _ h => h) (Or.inr ⟨by rfl, rfl⟩) (by assumption) ?_
  try simp only [Act.put, List.setIfInBounds_toArray, List.set_cons_zero, List.set_cons_succ]
  refine takeL (i := 13) (v := undef) rfl (by kernel_rfl) (by kernel_rfl) (by kernel_rfl) (by decide) (fun _ _ _ h => h) (Or.inr ⟨by rfl, rfl⟩) (by assumption) ?_
  try simp only [Act.put, List.setIfInBounds_toArray, List.set_cons_zero, List.set_cons_succ]
  refine takeL (i := 14) (v := undef) rfl (by kernel_rfl) (by kernel_rfl) (by kernel_rfl) (by decide) (fun _ _ _ h => h) (Or.inr ⟨by rfl, rfl⟩) (by assumption) ?_
  try simp only [Act.put, List.setIfInBounds_toArray, List.set_cons_zero, List.set_cons_succ]
  refine takeL (i := 15) (v := undef) rfl (by kernel_rfl) (by kernel_rfl) (by kernel_rfl) (by decide) (fun _ _ _ h => h) (Or.inr ⟨by rfl, rfl⟩) (by assumption) ?_
  try simp only [Act.put, List.setIfInBounds_toArray, List.set_cons_zero, List.set_cons_succ]
  refine takeL0 (i := 16) (v := undef) rfl rfl (by kernel_rfl) (by kernel_rfl) (by kernel_rfl) (by decide) (by kernel_rfl) (by kernel_rfl) (fun _ _ _ h => h) (Or.inr ⟨by rfl, rfl⟩) (by assumption) ?_
  try simp only [Act.put, List.setIfInBounds_toArray, List.set_cons_zero, List.set_cons_succ]
  refine readyL (rs := [17]) (by kernel_rfl) (by simp) ?_
  refine AllReadyL.cons rfl (fun K hK => ?_) AllReadyL.nil
  go_simp
  refine hK.out _ _ ?_ (fun hS1 => ?_)
  · exact ⟨HS.out _ (below_drew Z), fun h => absurd (h.symm.trans (show _ = true by kernel_rfl)) (by decide)⟩
  clear hK K hS0
  try simp only [Act.put, List.setIfInBounds_toArray, List.set_cons_zero, List.set_cons_succ]
  refine doneL (by kernel_rfl) ?_ _
  have qq := ((Below.refl Z.heap.size Z).block _ (lt_of_block HQ.out)).trans HQ.out
  have r0 : Z.cell? ⟨w.heap.size + 1, 0, none⟩ = some (.int .i64 0) := by rw [cell_of_block qq]; rfl
  have r1 : Z.cell? ⟨w.heap.size + 1, 1, none⟩ = some (.slice none 0 0) := by rw [cell_of_block qq]; rfl
  have rz := fun o => frozen_of_block (o := o) qq
  have rl := lt_of_block qq
  have FIN0 := MadeTO.stored (w := w) (P := w.heap.size + 1) (B := w.heap.size + 1 + 1) (o := resE 6 ty fr [u, u2]) (T := .mk 0 []) (fun x h => by rw [HR0.out] at h; cases h) (b := false) (by rw [HR0.out] <;> rfl) (leaf_ty Z 0) (Fresh.nil _ _) (by omega) (by omega) HB.out
  have FIN1 := MadeTO.stored (w := w) (P := w.heap.size + 1) (B := w.heap.size + 1 + 1) (o := resE 6 ty fr [u, u2]) (T := .mk 0 []) (fun x h => by rw [HR0.out] at h; cases h) (b := false) (by rw [HR0.out] <;> rfl) (leaf_ty Z.drew 0) (Fresh.nil _ _) (by omega) (by omega) (below_trans HB.out (below_drew Z))
  have FIN := hid (And.intro FIN1 FIN0.drew)
  clear FIN0 FIN1 HS HSP HB HQ
  go_wp2_with fail
  exact bodyPost_ret (v := .tuple #[.agg #[.int .i64 0, .slice none 0 0], .bool false]) (by simp [results, Tryd.results121, go_sem, r0, r1]) rfl (by first | exact FIN.out.1 | exact FIN.out.2)

set_option maxRecDepth 100000 in
set_option maxHeartbeats 4000000 in
theorem ex_6y : ∀ (nm : ByteArray) (num : Int) (ty fr : Ty) (lb : Int) (ts : List Tm) (v : Value) (fe : List Nat) (us : List Ty) (s : Value) (fu : List Nat) (w : World),
  Tm.At w (.mk 6 nm num ty fr lb ts) v fe → SlAt w us s fu → kidsM 6 = (us.length : Int) → (∀ u ∈ us, vld u = true) → ((6 : Int) = 14 → vld ty = true ∧ vld fr = true) → knd (nth us 0) = 4 →
  Calls Tryd.prog 121 #[v, s] w (MadeTO w (resE 6 ty fr us)) := by
  intro nm num ty fr lb ts v fe us s fu w hat hus hlen hvl hty hkd
  obtain ⟨k1, n1, a1, c1, k2, n2, a2, c2, a3, c3, f1, f2, f3, rfl, hnm, ht1, ht2, rfl, hs3⟩ := hat.parts
  have HB := hid (show Below w.heap.size w ((w.alloc (Obj.cells #[.int .i64 6, .string nm, .int .i64 num, .int .i64 k1, .slice a1 n1 c1, .int .i64 k2, .slice a2 n2 c2, .int .i64 lb, .slice a3 ts.length c3] 35)).alloc (Obj.cells #[.int .i64 0, .slice none 0 0] 32)) from ((Below.refl _ _).alloc (Nat.le_refl _) _).alloc (by simp) _)
  have HSZ := hid (show ((w.alloc (Obj.cells #[.int .i64 6, .string nm, .int .i64 num, .int .i64 k1, .slice a1 n1 c1, .int .i64 k2, .slice a2 n2 c2, .int .i64 lb, .slice a3 ts.length c3] 35)).alloc (Obj.cells #[.int .i64 0, .slice none 0 0] 32)).heap.size = w.heap.size + 1 + 1 by simp)
  have HQ := hid (two_out (Below.refl _ ((w.alloc (Obj.cells #[.int .i64 6, .string nm, .int .i64 num, .int .i64 k1, .slice a1 n1 c1, .int .i64 k2, .slice a2 n2 c2, .int .i64 lb, .slice a3 ts.length c3] 35)).alloc (Obj.cells #[.int .i64 0, .slice none 0 0] 32)))).2
  obtain ⟨z0, z1, z2, z3, z4, z5, z6, z7, z8⟩ := cells9 (two_out (Below.refl _ ((w.alloc (Obj.cells #[.int .i64 6, .string nm, .int .i64 num, .int .i64 k1, .slice a1 n1 c1, .int .i64 k2, .slice a2 n2 c2, .int .i64 lb, .slice a3 ts.length c3] 35)).alloc (Obj.cells #[.int .i64 0, .slice none 0 0] 32)))).1
  obtain ⟨u, u2, rfl⟩ : ∃ a b, us = [a, b] := by
    have hl0 : us.length = 2 := by have : kidsM 6 = 2 := (by decide); omega
    match us, hl0 with
    | [a, b], _ => exact ⟨a, b, rfl⟩
  obtain ⟨sa, sc, hss, hcap, hmx, hget⟩ := hus.openA
  subst hss
  obtain ⟨bx, ox, kx, nx, ax, cx, gx, hpx, hltx, ex0, ex1, hkx, -⟩ := hget 0 (by simp)
  obtain ⟨bj, oj, kj, nj, aj, cj, gj, hpj, hltj, ej0, ej1, hkj, -⟩ := hget 1 (by simp)
  rw [hpx] at hpj
  simp only [Option.some.injEq, Addr.mk.injEq, and_true] at hpj
  obtain ⟨rfl, rfl⟩ := hpj
  subst hpx
  simp (config := { failIfUnchanged := false }) only [Nat.zero_mul, Nat.add_zero, Nat.one_mul, List.getElem_cons_zero, List.getElem_cons_succ] at ex0 ex1 hkx ej0 ej1 hkj
  obtain ⟨ku, tsu, rfl⟩ := u.shape
  obtain rfl : ku = 4 := hkd
  obtain ⟨p, r, rfl⟩ := two_of (.inl rfl) (hvl (.mk 4 tsu) (by simp))
  have hkx0 := hkx
  obtain ⟨rfl, rfl, hcx, bi, oi, kp, np, ap, cp, kr, nr, ar, cr, gp, gr, rfl, hlti, ei0, ei1, ei2, ei3, hkp, hkr⟩ := two_kids hkx0
  have HVp := hid (vld_kid (hvl (.mk 4 [p, r]) (by simp)) (t := p) (by simp))
  have HVr := hid (vld_kid (hvl (.mk 4 [p, r]) (by simp)) (t := r) (by simp))
  clear hkx0
  replace ex0 := cell_keep ex0 HB.out
  replace ex1 := cell_keep ex1 HB.out
  have HVx := hid (hvl (.mk 4 [p, r]) (by simp))
  have HKx := hid (fun (W : World) (h : Below ((w.alloc (Obj.cells #[.int .i64 6, .string nm, .int .i64 num, .int .i64 k1, .slice a1 n1 c1, .int .i64 k2, .slice a2 n2 c2, .int .i64 lb, .slice a3 ts.length c3] 35)).alloc (Obj.cells #[.int .i64 0, .slice none 0 0] 32)).heap.size ((w.alloc (Obj.cells #[.int .i64 6, .string nm, .int .i64 num, .int .i64 k1, .slice a1 n1 c1, .int .i64 k2, .slice a2 n2 c2, .int .i64 lb, .slice a3 ts.length c3] 35)).alloc (Obj.cells #[.int .i64 0, .slice none 0 0] 32)) W) => hkx.below (below_trans HB.out h))
  replace ej0 := cell_keep ej0 HB.out
  replace ej1 := cell_keep ej1 HB.out
  have HVj := hid (hvl u2 (by simp))
  have HKj := hid (fun (W : World) (h : Below ((w.alloc (Obj.cells #[.int .i64 6, .string nm, .int .i64 num, .int .i64 k1, .slice a1 n1 c1, .int .i64 k2, .slice a2 n2 c2, .int .i64 lb, .slice a3 ts.length c3] 35)).alloc (Obj.cells #[.int .i64 0, .slice none 0 0] 32)).heap.size ((w.alloc (Obj.cells #[.int .i64 6, .string nm, .int .i64 num, .int .i64 k1, .slice a1 n1 c1, .int .i64 k2, .slice a2 n2 c2, .int .i64 lb, .slice a3 ts.length c3] 35)).alloc (Obj.cells #[.int .i64 0, .slice none 0 0] 32)) W) => hkj.below (below_trans HB.out h))
  replace ei0 := cell_keep ei0 HB.out
  replace ei1 := cell_keep ei1 HB.out
  replace ei2 := cell_keep ei2 HB.out
  replace ei3 := cell_keep ei3 HB.out
  have HKp := hid (fun (W : World) (h : Below ((w.alloc (Obj.cells #[.int .i64 6, .string nm, .int .i64 num, .int .i64 k1, .slice a1 n1 c1, .int .i64 k2, .slice a2 n2 c2, .int .i64 lb, .slice a3 ts.length c3] 35)).alloc (Obj.cells #[.int .i64 0, .slice none 0 0] 32)).heap.size ((w.alloc (Obj.cells #[.int .i64 6, .string nm, .int .i64 num, .int .i64 k1, .slice a1 n1 c1, .int .i64 k2, .slice a2 n2 c2, .int .i64 lb, .slice a3 ts.length c3] 35)).alloc (Obj.cells #[.int .i64 0, .slice none 0 0] 32)) W) => hkp.below (below_trans HB.out h))
  have HKr := hid (fun (W : World) (h : Below ((w.alloc (Obj.cells #[.int .i64 6, .string nm, .int .i64 num, .int .i64 k1, .slice a1 n1 c1, .int .i64 k2, .slice a2 n2 c2, .int .i64 lb, .slice a3 ts.length c3] 35)).alloc (Obj.cells #[.int .i64 0, .slice none 0 0] 32)).heap.size ((w.alloc (Obj.cells #[.int .i64 6, .string nm, .int .i64 num, .int .i64 k1, .slice a1 n1 c1, .int .i64 k2, .slice a2 n2 c2, .int .i64 lb, .slice a3 ts.length c3] 35)).alloc (Obj.cells #[.int .i64 0, .slice none 0 0] 32)) W) => hkr.below (below_trans HB.out h))
  have HT1 := hid (fun (W : World) (h : Below ((w.alloc (Obj.cells #[.int .i64 6, .string nm, .int .i64 num, .int .i64 k1, .slice a1 n1 c1, .int .i64 k2, .slice a2 n2 c2, .int .i64 lb, .slice a3 ts.length c3] 35)).alloc (Obj.cells #[.int .i64 0, .slice none 0 0] 32)).heap.size ((w.alloc (Obj.cells #[.int .i64 6, .string nm, .int .i64 num, .int .i64 k1, .slice a1 n1 c1, .int .i64 k2, .slice a2 n2 c2, .int .i64 lb, .slice a3 ts.length c3] 35)).alloc (Obj.cells #[.int .i64 0, .slice none 0 0] 32)) W) => ht1.below (below_trans HB.out h))
  have HT2 := hid (fun (W : World) (h : Below ((w.alloc (Obj.cells #[.int .i64 6, .string nm, .int .i64 num, .int .i64 k1, .slice a1 n1 c1, .int .i64 k2, .slice a2 n2 c2, .int .i64 lb, .slice a3 ts.length c3] 35)).alloc (Obj.cells #[.int .i64 0, .slice none 0 0] 32)).heap.size ((w.alloc (Obj.cells #[.int .i64 6, .string nm, .int .i64 num, .int .i64 k1, .slice a1 n1 c1, .int .i64 k2, .slice a2 n2 c2, .int .i64 lb, .slice a3 ts.length c3] 35)).alloc (Obj.cells #[.int .i64 0, .slice none 0 0] 32)) W) => ht2.below (below_trans HB.out h))
  have HTY := hid hty
  have HS := hid (fun (W : World) (h : Below ((w.alloc (Obj.cells #[.int .i64 6, .string nm, .int .i64 num, .int .i64 k1, .slice a1 n1 c1, .int .i64 k2, .slice a2 n2 c2, .int .i64 lb, .slice a3 ts.length c3] 35)).alloc (Obj.cells #[.int .i64 0, .slice none 0 0] 32)).heap.size ((w.alloc (Obj.cells #[.int .i64 6, .string nm, .int .i64 num, .int .i64 k1, .slice a1 n1 c1, .int .i64 k2, .slice a2 n2 c2, .int .i64 lb, .slice a3 ts.length c3] 35)).alloc (Obj.cells #[.int .i64 0, .slice none 0 0] 32)) W) => (show W.cell? ⟨bx, ox, none⟩ = some (.int .i64 4) ∧ W.cell? ⟨bx, ox + 1, none⟩ = some (.slice (some ⟨bi, oi, none⟩) 2 cx) ∧ W.cell? ⟨bx, ox + 2, none⟩ = some (.int .i64 kj) ∧ W.cell? ⟨bx, ox + 2 + 1, none⟩ = some (.slice aj nj cj) ∧ W.cell? ⟨bi, oi, none⟩ = some (.int .i64 kp) ∧ W.cell? ⟨bi, oi + 1, none⟩ = some (.slice ap np cp) ∧ W.cell? ⟨bi, oi + 2, none⟩ = some (.int .i64 kr) ∧ W.cell? ⟨bi, oi + 2 + 1, none⟩ = some (.slice ar nr cr) from ⟨cell_keep ex0 h, cell_keep ex1 h, cell_keep ej0 h, cell_keep ej1 h, cell_keep ei0 h, cell_keep ei1 h, cell_keep ei2 h, cell_keep ei3 h⟩))
  have HSP := hid (fun (W : World) (x y : Value) (h : Below ((w.alloc (Obj.cells #[.int .i64 6, .string nm, .int .i64 num, .int .i64 k1, .slice a1 n1 c1, .int .i64 k2, .slice a2 n2 c2, .int .i64 lb, .slice a3 ts.length c3] 35)).alloc (Obj.cells #[.int .i64 0, .slice none 0 0] 32)).heap.size ((w.alloc (Obj.cells #[.int .i64 6, .string nm, .int .i64 num, .int .i64 k1, .slice a1 n1 c1, .int .i64 k2, .slice a2 n2 c2, .int .i64 lb, .slice a3 ts.length c3] 35)).alloc (Obj.cells #[.int .i64 0, .slice none 0 0] 32)) W) => (show ((W.setCell ⟨w.heap.size + 1, 0, none⟩ x).setCell ⟨w.heap.size + 1, 1, none⟩ y).cell? ⟨bx, ox, none⟩ = some (.int .i64 4) ∧ ((W.setCell ⟨w.heap.size + 1, 0, none⟩ x).setCell ⟨w.heap.size + 1, 1, none⟩ y).cell? ⟨bx, ox + 1, none⟩ = some (.slice (some ⟨bi, oi, none⟩) 2 cx) ∧ ((W.setCell ⟨w.heap.size + 1, 0, none⟩ x).setCell ⟨w.heap.size + 1, 1, none⟩ y).cell? ⟨bx, ox + 2, none⟩ = some (.int .i64 kj) ∧ ((W.setCell ⟨w.heap.size + 1, 0, none⟩ x).setCell ⟨w.heap.size + 1, 1, none⟩ y).cell? ⟨bx, ox + 2 + 1, none⟩ = some (.slice aj nj cj) ∧ ((W.setCell ⟨w.heap.size + 1, 0, none⟩ x).setCell ⟨w.heap.size + 1, 1, none⟩ y).cell? ⟨bi, oi, none⟩ = some (.int .i64 kp) ∧ ((W.setCell ⟨w.heap.size + 1, 0, none⟩ x).setCell ⟨w.heap.size + 1, 1, none⟩ y).cell? ⟨bi, oi + 1, none⟩ = some (.slice ap np cp) ∧ ((W.setCell ⟨w.heap.size + 1, 0, none⟩ x).setCell ⟨w.heap.size + 1, 1, none⟩ y).cell? ⟨bi, oi + 2, none⟩ = some (.int .i64 kr) ∧ ((W.setCell ⟨w.heap.size + 1, 0, none⟩ x).setCell ⟨w.heap.size + 1, 1, none⟩ y).cell? ⟨bi, oi + 2 + 1, none⟩ = some (.slice ar nr cr) from ⟨two_keepS (cell_keep ex0 h) (by omega) _ _, two_keepS (cell_keep ex1 h) (by omega) _ _, two_keepS (cell_keep ej0 h) (by omega) _ _, two_keepS (cell_keep ej1 h) (by omega) _ _, two_keepS (cell_keep ei0 h) (by omega) _ _, two_keepS (cell_keep ei1 h) (by omega) _ _, two_keepS (cell_keep ei2 h) (by omega) _ _, two_keepS (cell_keep ei3 h) (by omega) _ _⟩))
  clear hat hus hlen hvl hs3 ht1 ht2 hget hcap hmx hty hkx hkj hkp hkr
  have HR1 := hid (show tyEq p u2 = false → resE 6 ty fr [.mk 4 [p, r], u2] = none from fun h => by simp [resE, nth, knd, kd2, kids2, h])
  have HR2 := hid (show tyEq p u2 = true → resE 6 ty fr [.mk 4 [p, r], u2] = some r from fun h => by simp [resE, nth, knd, kd2, kids2, h])
  have HC1 := hid (fun (W : World) (h1 : p.At W (.agg #[.int .i64 kp, .slice ap np cp]) gp) (h2 : u2.At W (.agg #[.int .i64 kj, .slice aj nj cj]) gj) => specTypeSame p u2 _ _ gp gj W h1 h2)
  generalize tyEq p u2 = cc at *
  go_enter Tryd.func121, Tryd.ntmps121
  go_wp2_with fail
  generalize ((w.alloc (Obj.cells #[.int .i64 6, .string nm, .int .i64 num, .int .i64 k1, .slice a1 n1 c1, .int .i64 k2, .slice a2 n2 c2, .int .i64 lb, .slice a3 ts.length c3] 35)).alloc (Obj.cells #[.int .i64 0, .slice none 0 0] 32)) = Z at *
  have hzS : w.heap.size + 1 < Z.heap.size := by rw [HSZ.out]; omega
  cases cc with
  | false =>
    refine regionL (s := 17) (S0 := (fun _ => True)) (S1 := (fun w' => w'.cell? ⟨bx, ox, none⟩ = some (.int .i64 4) ∧ w'.cell? ⟨bx, ox + 1, none⟩ = some (.slice (some ⟨bi, oi, none⟩) 2 cx) ∧ w'.cell? ⟨bx, ox + 2, none⟩ = some (.int .i64 kj) ∧ w'.cell? ⟨bx, ox + 2 + 1, none⟩ = some (.slice aj nj cj) ∧ w'.cell? ⟨bi, oi, none⟩ = some (.int .i64 kp) ∧ w'.cell? ⟨bi, oi + 1, none⟩ = some (.slice ap np cp) ∧ w'.cell? ⟨bi, oi + 2, none⟩ = some (.int .i64 kr) ∧ w'.cell? ⟨bi, oi + 2 + 1, none⟩ = some (.slice ar nr cr))) (by kernel_rfl) (trivial) (HS.out _ (below_drew Z)) (fun hS0 => ?_)
    refine takeL (i := 0) (v := ?vb61) rfl (by kernel_rfl) (by kernel_rfl) (by kernel_rfl) (by decide) (fun _ _ _ h => h) (Or.inl ⟨by rfl, ?hyb61⟩) (by assumption) ?_
    case hyb61 => (intro w hSw; (try dsimp only at hSw); go_simp; (try with_reducible rfl))
    try simp only [Act.put, List.setIfInBounds_toArray, List.set_cons_zero, List.set_cons_succ]
    refine takeL (i := 1) (v := ?vb62) rfl (by kernel_rfl) (by kernel_rfl) (by kernel_rfl) (by decide) (fun _ _ _ h => h) (Or.inl ⟨by rfl, ?hyb62⟩) (by assumption) ?_
    case hyb62 => (intro w hSw; (try dsimp only at hSw); go_simp; (try with_reducible rfl))
    try simp only [Act.put, List.setIfInBounds_toArray, List.set_cons_zero, List.set_cons_succ]
    refine takeL (i := 2) (v := ?vb63) rfl (by kernel_rfl) (by kernel_rfl) (by kernel_rfl) (by decide) (fun _ _ _ h => h) (Or.inl ⟨by rfl, ?hyb63⟩) (by assumption) ?_
    case hyb63 => (intro w hSw; (try dsimp only at hSw); go_simp; (try with_reducible rfl))
    try simp only [Act.put, List.setIfInBounds_toArray, List.set_cons_zero, List.set_cons_succ]
    refine takeL (i := 3) (v := ?vb64) rfl (by kernel_rfl) (by kernel_rfl) (by kernel_rfl) (by decide) (fun _ _ _ h => h) (Or.inl ⟨by rfl, ?hyb64⟩) (by assumption) ?_
    case hyb64 => (intro w hSw; (try dsimp only at hSw); go_simp; (try with_reducible rfl))
    try simp only [Act.put, List.setIfInBounds_toArray, List.set_cons_zero, List.set_cons_succ]
    refine takeL (i := 4) (v := ?vb65) rfl (by kernel_rfl) (by kernel_rfl) (by kernel_rfl) (by decide) (fun _ _ _ h => h) (Or.inl ⟨by rfl, ?hyb65⟩) (by assumption) ?_
    case hyb65 => (intro w hSw; (try dsimp only at hSw); go_simp; (try with_reducible rfl))
    try simp only [Act.put, List.setIfInBounds_toArray, List.set_cons_zero, List.set_cons_succ]
    refine takeL0 (i := 5) (v := ?vb66) rfl rfl (by kernel_rfl) (by kernel_rfl) (by kernel_rfl) (by decide) (by kernel_rfl) (by kernel_rfl) (fun _ _ _ h => h) (Or.inl ⟨by rfl, ?hyb66⟩) (by assumption) ?_
    case hyb66 => (intro w hSw; (try dsimp only at hSw); go_simp; (try with_reducible rfl))
    try simp only [Act.put, List.setIfInBounds_toArray, List.set_cons_zero, List.set_cons_succ]
    refine takeL (i := 6) (v := ?vb67) rfl (by kernel_rfl) (by kernel_rfl) (by kernel_rfl) (by decide) (fun _ _ _ h => h) (Or.inl ⟨by rfl, ?hyb67⟩) (by assumption) ?_
    case hyb67 => (intro w hSw; (try dsimp only at hSw); go_simp; (try with_reducible rfl))
    try simp only [Act.put, List.setIfInBounds_toArray, List.set_cons_zero, List.set_cons_succ]
    refine takeL (i := 7) (v := ?vb68) rfl (by kernel_rfl) (by kernel_rfl) (by kernel_rfl) (by decide) (fun _ _ _ h => h) (Or.inl ⟨by rfl, ?hyb68⟩) (by assumption) ?_
    case hyb68 => (intro w hSw; (try dsimp only at hSw); go_simp; (try with_reducible rfl))
    try simp only [Act.put, List.setIfInBounds_toArray, List.set_cons_zero, List.set_cons_succ]
    refine takeL (i := 8) (v := ?vb69) rfl (by kernel_rfl) (by kernel_rfl) (by kernel_rfl) (by decide) (fun _ _ _ h => h) (Or.inl ⟨by rfl, ?hyb69⟩) (by assumption) ?_
    case hyb69 => (intro w hSw; (try dsimp only at hSw); go_simp; (try with_reducible rfl))
    try simp only [Act.put, List.setIfInBounds_toArray, List.set_cons_zero, List.set_cons_succ]
    refine takeL (i := 9) (v := ?vb610) rfl (by kernel_rfl) (by kernel_rfl) (by kernel_rfl) (by decide) (fun _ _ _ h => h) (Or.inl ⟨by rfl, ?hyb610⟩) (by assumption) ?_
    case hyb610 => (intro w hSw; (try dsimp only at hSw); go_simp; (try with_reducible rfl))
    try simp only [Act.put, List.setIfInBounds_toArray, List.set_cons_zero, List.set_cons_succ]
    refine takeL (i := 10) (v := ?vb611) rfl (by kernel_rfl) (by kernel_rfl) (by kernel_rfl) (by decide) (fun _ _ _ h => h) (Or.inl ⟨by rfl, ?hyb611⟩) (by assumption) ?_
    case hyb611 => (intro w hSw; (try dsimp only at hSw); go_simp; (try with_reducible rfl))
    try simp only [Act.put, List.setIfInBounds_toArray, List.set_cons_zero, List.set_cons_succ]
    refine takeL (i := 11) (v := ?vb612) rfl (by kernel_rfl) (by kernel_rfl) (by kernel_rfl) (by decide) (fun _ _ _ h => h) (Or.inl ⟨by rfl, ?hyb612⟩) (by assumption) ?_
    case hyb612 => (intro w hSw; (try dsimp only at hSw); go_simp; (try with_reducible rfl))
    try simp only [Act.put, List.setIfInBounds_toArray, List.set_cons_zero, List.set_cons_succ]
    refine takeL (i := 12) (v := ?vb613) rfl (by kernel_rfl) (by kernel_rfl) (by kernel_rfl) (by decide) (fun _ _ _ h => h) (Or.inl ⟨by rfl, ?hyb613⟩) (by assumption) ?_
    case hyb613 => (intro w hSw; (try dsimp only at hSw); go_simp; (try with_reducible rfl))
    try simp only [Act.put, List.setIfInBounds_toArray, List.set_cons_zero, List.set_cons_succ]
    refine takeL (i := 13) (v := ?vb614) rfl (by kernel_rfl) (by kernel_rfl) (by kernel_rfl) (by decide) (fun _ _ _ h => h) (Or.inl ⟨by rfl, ?hyb614⟩) (by assumption) ?_
    case hyb614 => (intro w hSw; (try dsimp only at hSw); go_simp; (try with_reducible rfl))
    try simp only [Act.put, List.setIfInBounds_toArray, List.set_cons_zero, List.set_cons_succ]
    refine takeL (i := 14) (v := ?vb615) rfl (by kernel_rfl) (by kernel_rfl) (by kernel_rfl) (by decide) (fun _ _ _ h => h) (Or.inl ⟨by rfl, ?hyb615⟩) (by assumption) ?_
    case hyb615 => (intro w hSw; (try dsimp only at hSw); go_simp; (try with_reducible rfl))
    try simp only [Act.put, List.setIfInBounds_toArray, List.set_cons_zero, List.set_cons_succ]
    refine readyL (rs := [15]) (by kernel_rfl) (by simp) ?_
    refine AllReadyL.cons rfl (fun K hK => ?_) AllReadyL.nil
    go_simp
    refine (HC1.out _ (HKp.out _ (below_drew Z)) (HKj.out _ (below_drew Z))).mono ?_
    rintro e y15 ⟨rfl, hy15⟩
    have hk15 : Below Z.heap.size Z y15 := below_trans (below_drew Z) hy15
    refine hK.out _ _ ?_ (fun hS1 => ?_)
    · exact ⟨HS.out _ hk15, fun _ => trivial⟩
    clear hK K hS0
    try simp only [Act.put, List.setIfInBounds_toArray, List.set_cons_zero, List.set_cons_succ]
    refine takeL0 (i := 16) (v := ?vb616) rfl rfl (by kernel_rfl) (by kernel_rfl) (by kernel_rfl) (by decide) (by kernel_rfl) (by kernel_rfl) (fun _ _ _ h => h) (Or.inl ⟨by rfl, ?hyb616⟩) (by assumption) ?_
    case hyb616 => (intro w hSw; (try dsimp only at hSw); go_simp; (try with_reducible rfl))
    try simp only [Act.put, List.setIfInBounds_toArray, List.set_cons_zero, List.set_cons_succ]
    refine readyL (rs := [17]) (by kernel_rfl) (by simp) ?_
    refine AllReadyL.cons rfl (fun K hK => ?_) AllReadyL.nil
    go_simp
    refine hK.out _ _ ?_ (fun hS2 => ?_)
    · exact ⟨HS.out _ hk15, fun h => absurd (h.symm.trans (show _ = true by kernel_rfl)) (by decide)⟩
    clear hK K hS1
    try simp only [Act.put, List.setIfInBounds_toArray, List.set_cons_zero, List.set_cons_succ]
    refine doneL (by kernel_rfl) ?_ _
    have qq := (hk15.block _ (lt_of_block HQ.out)).trans HQ.out
    have r0 : y15.cell? ⟨w.heap.size + 1, 0, none⟩ = some (.int .i64 0) := by rw [cell_of_block qq]; rfl
    have r1 : y15.cell? ⟨w.heap.size + 1, 1, none⟩ = some (.slice none 0 0) := by rw [cell_of_block qq]; rfl
    have rz := fun o => frozen_of_block (o := o) qq
    have rl := lt_of_block qq
    have FIN := hid (MadeTO.stored (w := w) (P := w.heap.size + 1) (o := resE 6 ty fr [.mk 4 [p, r], u2]) (T := (.mk 0 [])) (fun x h => by rw [HR1.out rfl] at h; cases h) (by rw [HR1.out rfl] <;> rfl) (leaf_ty _ 0) (Fresh.nil _ _) (by omega) (by omega) (below_trans HB.out hk15))
    clear HS HSP HB HQ
    go_wp2_with fail
    exact bodyPost_ret (v := .tuple #[.agg #[.int .i64 0, .slice none 0 0], .bool false]) (by simp [results, Tryd.results121, go_sem, r0, r1]) rfl (by first | exact FIN.out | (rw [HRES.out]; exact FIN.out))
  | true =>
    refine regionL (s := 17) (S0 := (fun _ => True)) (S1 := (fun w' => w'.cell? ⟨bx, ox, none⟩ = some (.int .i64 4) ∧ w'.cell? ⟨bx, ox + 1, none⟩ = some (.slice (some ⟨bi, oi, none⟩) 2 cx) ∧ w'.cell? ⟨bx, ox + 2, none⟩ = some (.int .i64 kj) ∧ w'.cell? ⟨bx, ox + 2 + 1, none⟩ = some (.slice aj nj cj) ∧ w'.cell? ⟨bi, oi, none⟩ = some (.int .i64 kp) ∧ w'.cell? ⟨bi, oi + 1, none⟩ = some (.slice ap np cp) ∧ w'.cell? ⟨bi, oi + 2, none⟩ = some (.int .i64 kr) ∧ w'.cell? ⟨bi, oi + 2 + 1, none⟩ = some (.slice ar nr cr))) (by kernel_rfl) (trivial) (HS.out _ (below_drew Z)) (fun hS0 => ?_)
    refine takeL (i := 0) (v := ?vc61) rfl (by kernel_rfl) (by kernel_rfl) (by kernel_rfl) (by decide) (fun _ _ _ h => h) (Or.inl ⟨by rfl, ?hyc61⟩) (by assumption) ?_
    case hyc61 => (intro w hSw; (try dsimp only at hSw); go_simp; (try with_reducible rfl))
    try simp only [Act.put, List.setIfInBounds_toArray, List.set_cons_zero, List.set_cons_succ]
    refine takeL (i := 1) (v := ?vc62) rfl (by kernel_rfl) (by kernel_rfl) (by kernel_rfl) (by decide) (fun _ _ _ h => h) (Or.inl ⟨by rfl, ?hyc62⟩) (by assumption) ?_
    case hyc62 => (intro w hSw; (try dsimp only at hSw); go_simp; (try with_reducible rfl))
    try simp only [Act.put, List.setIfInBounds_toArray, List.set_cons_zero, List.set_cons_succ]
    refine takeL (i := 2) (v := ?vc63) rfl (by kernel_rfl) (by kernel_rfl) (by kernel_rfl) (by decide) (fun _ _ _ h => h) (Or.inl ⟨by rfl, ?hyc63⟩) (by assumption) ?_
    case hyc63 => (intro w hSw; (try dsimp only at hSw); go_simp; (try with_reducible rfl))
    try simp only [Act.put, List.setIfInBounds_toArray, List.set_cons_zero, List.set_cons_succ]
    refine takeL (i := 3) (v := ?vc64) rfl (by kernel_rfl) (by kernel_rfl) (by kernel_rfl) (by decide) (fun _ _ _ h => h) (Or.inl ⟨by rfl, ?hyc64⟩) (by assumption) ?_
    case hyc64 => (intro w hSw; (try dsimp only at hSw); go_simp; (try with_reducible rfl))
    try simp only [Act.put, List.setIfInBounds_toArray, List.set_cons_zero, List.set_cons_succ]
    refine takeL (i := 4) (v := ?vc65) rfl (by kernel_rfl) (by kernel_rfl) (by kernel_rfl) (by decide) (fun _ _ _ h => h) (Or.inl ⟨by rfl, ?hyc65⟩) (by assumption) ?_
    case hyc65 => (intro w hSw; (try dsimp only at hSw); go_simp; (try with_reducible rfl))
    try simp only [Act.put, List.setIfInBounds_toArray, List.set_cons_zero, List.set_cons_succ]
    refine takeL0 (i := 5) (v := ?vc66) rfl rfl (by kernel_rfl) (by kernel_rfl) (by kernel_rfl) (by decide) (by kernel_rfl) (by kernel_rfl) (fun _ _ _ h => h) (Or.inl ⟨by rfl, ?hyc66⟩) (by assumption) ?_
    case hyc66 => (intro w hSw; (try dsimp only at hSw); go_simp; (try with_reducible rfl))
    try simp only [Act.put, List.setIfInBounds_toArray, List.set_cons_zero, List.set_cons_succ]
    refine takeL (i := 6) (v := ?vc67) rfl (by kernel_rfl) (by kernel_rfl) (by kernel_rfl) (by decide) (fun _ _ _ h => h) (Or.inl ⟨by rfl, ?hyc67⟩) (by assumption) ?_
    case hyc67 => (intro w hSw; (try dsimp only at hSw); go_simp; (try with_reducible rfl))
    try simp only [Act.put, List.setIfInBounds_toArray, List.set_cons_zero, List.set_cons_succ]
    refine takeL (i := 7) (v := ?vc68) rfl (by kernel_rfl) (by kernel_rfl) (by kernel_rfl) (by decide) (fun _ _ _ h => h) (Or.inl ⟨by rfl, ?hyc68⟩) (by assumption) ?_
    case hyc68 => (intro w hSw; (try dsimp only at hSw); go_simp; (try with_reducible rfl))
    try simp only [Act.put, List.setIfInBounds_toArray, List.set_cons_zero, List.set_cons_succ]
    refine takeL (i := 8) (v := ?vc69) rfl (by kernel_rfl) (by kernel_rfl) (by kernel_rfl) (by decide) (fun _ _ _ h => h) (Or.inl ⟨by rfl, ?hyc69⟩) (by assumption) ?_
    case hyc69 => (intro w hSw; (try dsimp only at hSw); go_simp; (try with_reducible rfl))
    try simp only [Act.put, List.setIfInBounds_toArray, List.set_cons_zero, List.set_cons_succ]
    refine takeL (i := 9) (v := ?vc610) rfl (by kernel_rfl) (by kernel_rfl) (by kernel_rfl) (by decide) (fun _ _ _ h => h) (Or.inl ⟨by rfl, ?hyc610⟩) (by assumption) ?_
    case hyc610 => (intro w hSw; (try dsimp only at hSw); go_simp; (try with_reducible rfl))
    try simp only [Act.put, List.setIfInBounds_toArray, List.set_cons_zero, List.set_cons_succ]
    refine takeL (i := 10) (v := ?vc611) rfl (by kernel_rfl) (by kernel_rfl) (by kernel_rfl) (by decide) (fun _ _ _ h => h) (Or.inl ⟨by rfl, ?hyc611⟩) (by assumption) ?_
    case hyc611 => (intro w hSw; (try dsimp only at hSw); go_simp; (try with_reducible rfl))
    try simp only [Act.put, List.setIfInBounds_toArray, List.set_cons_zero, List.set_cons_succ]
    refine takeL (i := 11) (v := ?vc612) rfl (by kernel_rfl) (by kernel_rfl) (by kernel_rfl) (by decide) (fun _ _ _ h => h) (Or.inl ⟨by rfl, ?hyc612⟩) (by assumption) ?_
    case hyc612 => (intro w hSw; (try dsimp only at hSw); go_simp; (try with_reducible rfl))
    try simp only [Act.put, List.setIfInBounds_toArray, List.set_cons_zero, List.set_cons_succ]
    refine takeL (i := 12) (v := ?vc613) rfl (by kernel_rfl) (by kernel_rfl) (by kernel_rfl) (by decide) (fun _ _ _ h => h) (Or.inl ⟨by rfl, ?hyc613⟩) (by assumption) ?_
    case hyc613 => (intro w hSw; (try dsimp only at hSw); go_simp; (try with_reducible rfl))
    try simp only [Act.put, List.setIfInBounds_toArray, List.set_cons_zero, List.set_cons_succ]
    refine takeL (i := 13) (v := ?vc614) rfl (by kernel_rfl) (by kernel_rfl) (by kernel_rfl) (by decide) (fun _ _ _ h => h) (Or.inl ⟨by rfl, ?hyc614⟩) (by assumption) ?_
    case hyc614 => (intro w hSw; (try dsimp only at hSw); go_simp; (try with_reducible rfl))
    try simp only [Act.put, List.setIfInBounds_toArray, List.set_cons_zero, List.set_cons_succ]
    refine takeL (i := 14) (v := ?vc615) rfl (by kernel_rfl) (by kernel_rfl) (by kernel_rfl) (by decide) (fun _ _ _ h => h) (Or.inl ⟨by rfl, ?hyc615⟩) (by assumption) ?_
    case hyc615 => (intro w hSw; (try dsimp only at hSw); go_simp; (try with_reducible rfl))
    try simp only [Act.put, List.setIfInBounds_toArray, List.set_cons_zero, List.set_cons_succ]
    refine readyL (rs := [15]) (by kernel_rfl) (by simp) ?_
    refine AllReadyL.cons rfl (fun K hK => ?_) AllReadyL.nil
    go_simp
    refine (HC1.out _ (HKp.out _ (below_drew Z)) (HKj.out _ (below_drew Z))).mono ?_
    rintro e y15 ⟨rfl, hy15⟩
    have hk15 : Below Z.heap.size Z y15 := below_trans (below_drew Z) hy15
    refine hK.out _ _ ?_ (fun hS1 => ?_)
    · exact ⟨HS.out _ hk15, fun _ => trivial⟩
    clear hK K hS0
    try simp only [Act.put, List.setIfInBounds_toArray, List.set_cons_zero, List.set_cons_succ]
    refine takeL0 (i := 16) (v := ?vc616) rfl rfl (by kernel_rfl) (by kernel_rfl) (by kernel_rfl) (by decide) (by kernel_rfl) (by kernel_rfl) (fun _ _ _ h => h) (Or.inl ⟨by rfl, ?hyc616⟩) (by assumption) ?_
    case hyc616 => (intro w hSw; (try dsimp only at hSw); go_simp; (try with_reducible rfl))
    try simp only [Act.put, List.setIfInBounds_toArray, List.set_cons_zero, List.set_cons_succ]
    refine readyL (rs := [17]) (by kernel_rfl) (by simp) ?_
    refine AllReadyL.cons rfl (fun K hK => ?_) AllReadyL.nil
    go_simp
    refine hK.out _ _ ?_ (fun hS2 => ?_)
    · exact ⟨HS.out _ hk15, fun h => absurd (h.symm.trans (show _ = true by kernel_rfl)) (by decide)⟩
    clear hK K hS1
    try simp only [Act.put, List.setIfInBounds_toArray, List.set_cons_zero, List.set_cons_succ]
    refine doneL (by kernel_rfl) ?_ _
    obtain ⟨s0, s1, s2, s3, s4, s5, s6, s7⟩ := HS.out _ hk15
    have HCR := hid (l1Copy_any r _ _ _ (HKr.out _ hk15) (shp_cnt8 HVr.out (by omega)))
    go_wp2_with fail
    refine HCR.out.mono ?_
    rintro e y6 ⟨v6, f6, rfl, hat6, hf6, hy6⟩
    obtain ⟨k6, n6, a6, c6, rfl⟩ := hat6.agg
    have hk6 : Below Z.heap.size Z y6 := below_trans hk15 hy6
    have qq := (hk6.block _ (lt_of_block HQ.out)).trans HQ.out
    have r0 : y6.cell? ⟨w.heap.size + 1, 0, none⟩ = some (.int .i64 0) := by rw [cell_of_block qq]; rfl
    have r1 : y6.cell? ⟨w.heap.size + 1, 1, none⟩ = some (.slice none 0 0) := by rw [cell_of_block qq]; rfl
    have rz := fun o => frozen_of_block (o := o) qq
    have rl := lt_of_block qq
    have FIN := hid (MadeTO.stored (w := w) (P := w.heap.size + 1) (o := resE 6 ty fr [.mk 4 [p, r], u2]) (T := r) (fun x h => by rw [HR2.out (by trivial)] at h; cases h; rfl) (by rw [HR2.out (by trivial)] <;> rfl) hat6 hf6 (by have := hk15.size; omega) (by omega) (below_trans HB.out hk6))
    clear HS HSP HB HQ
    go_wp2_with fail
    exact bodyPost_ret (v := .tuple #[.agg #[.int .i64 k6, .slice a6 n6 c6], .bool true]) (by simp [results, Tryd.results121, go_sem, r0, r1]) rfl (by first | exact FIN.out | (rw [HRES.out]; exact FIN.out))

set_option maxRecDepth 100000 in
set_option maxHeartbeats 4000000 in
theorem ex_11n : ∀ (nm : ByteArray) (num : Int) (ty fr : Ty) (lb : Int) (ts : List Tm) (v : Value) (fe : List Nat) (us : List Ty) (s : Value) (fu : List Nat) (w : World),
  Tm.At w (.mk 11 nm num ty fr lb ts) v fe → SlAt w us s fu → kidsM 11 = (us.length : Int) → (∀ u ∈ us, vld u = true) → ((11 : Int) = 14 → vld ty = true ∧ vld fr = true) → knd (nth us 0) ≠ 5 →
  Calls Tryd.prog 121 #[v, s] w (MadeTO w (resE 11 ty fr us)) := by
  intro nm num ty fr lb ts v fe us s fu w hat hus hlen hvl hty hkd
  obtain ⟨k1, n1, a1, c1, k2, n2, a2, c2, a3, c3, f1, f2, f3, rfl, hnm, ht1, ht2, rfl, hs3⟩ := hat.parts
  have HB := hid (show Below w.heap.size w ((w.alloc (Obj.cells #[.int .i64 11, .string nm, .int .i64 num, .int .i64 k1, .slice a1 n1 c1, .int .i64 k2, .slice a2 n2 c2, .int .i64 lb, .slice a3 ts.length c3] 35)).alloc (Obj.cells #[.int .i64 0, .slice none 0 0] 32)) from ((Below.refl _ _).alloc (Nat.le_refl _) _).alloc (by simp) _)
  have HSZ := hid (show ((w.alloc (Obj.cells #[.int .i64 11, .string nm, .int .i64 num, .int .i64 k1, .slice a1 n1 c1, .int .i64 k2, .slice a2 n2 c2, .int .i64 lb, .slice a3 ts.length c3] 35)).alloc (Obj.cells #[.int .i64 0, .slice none 0 0] 32)).heap.size = w.heap.size + 1 + 1 by simp)
  have HQ := hid (two_out (Below.refl _ ((w.alloc (Obj.cells #[.int .i64 11, .string nm, .int .i64 num, .int .i64 k1, .slice a1 n1 c1, .int .i64 k2, .slice a2 n2 c2, .int .i64 lb, .slice a3 ts.length c3] 35)).alloc (Obj.cells #[.int .i64 0, .slice none 0 0] 32)))).2
  obtain ⟨z0, z1, z2, z3, z4, z5, z6, z7, z8⟩ := cells9 (two_out (Below.refl _ ((w.alloc (Obj.cells #[.int .i64 11, .string nm, .int .i64 num, .int .i64 k1, .slice a1 n1 c1, .int .i64 k2, .slice a2 n2 c2, .int .i64 lb, .slice a3 ts.length c3] 35)).alloc (Obj.cells #[.int .i64 0, .slice none 0 0] 32)))).1
  have hl0 : us.length = 1 := by have : kidsM 11 = 1 := (by decide); omega
  obtain ⟨u, rfl⟩ := List.length_eq_one_iff.1 hl0
  obtain ⟨sa, sc, hss, hcap, hmx, hget⟩ := hus.openA
  subst hss
  obtain ⟨bx, ox, kx, nx, ax, cx, gx, hpx, hltx, ex0, ex1, hkx, -⟩ := hget 0 (by simp)
  subst hpx
  simp (config := { failIfUnchanged := false }) only [Nat.zero_mul, Nat.add_zero, List.getElem_cons_zero] at ex0 ex1 hkx
  have hkk : (kx == 5) = false := by
    obtain ⟨ku, tsu, rfl⟩ := u.shape
    obtain ⟨s', e, -⟩ := Ty.at_mk.1 hkx
    simp only [Value.agg.injEq, Array.mk.injEq, List.cons.injEq, Value.int.injEq, true_and, and_true] at e
    obtain ⟨rfl, -⟩ := e
    have h : ¬ kx = 5 := hkd
    simpa using h
  have hkn : ¬ kx = 5 := by simpa using hkk
  have hkm : (kx != 5) = true := by rw [bne, hkk]; rfl
  replace ex0 := cell_keep ex0 HB.out
  replace ex1 := cell_keep ex1 HB.out
  have HVx := hid (hvl u (by simp))
  have HKx := hid (fun (W : World) (h : Below ((w.alloc (Obj.cells #[.int .i64 11, .string nm, .int .i64 num, .int .i64 k1, .slice a1 n1 c1, .int .i64 k2, .slice a2 n2 c2, .int .i64 lb, .slice a3 ts.length c3] 35)).alloc (Obj.cells #[.int .i64 0, .slice none 0 0] 32)).heap.size ((w.alloc (Obj.cells #[.int .i64 11, .string nm, .int .i64 num, .int .i64 k1, .slice a1 n1 c1, .int .i64 k2, .slice a2 n2 c2, .int .i64 lb, .slice a3 ts.length c3] 35)).alloc (Obj.cells #[.int .i64 0, .slice none 0 0] 32)) W) => hkx.below (below_trans HB.out h))
  have HT1 := hid (fun (W : World) (h : Below ((w.alloc (Obj.cells #[.int .i64 11, .string nm, .int .i64 num, .int .i64 k1, .slice a1 n1 c1, .int .i64 k2, .slice a2 n2 c2, .int .i64 lb, .slice a3 ts.length c3] 35)).alloc (Obj.cells #[.int .i64 0, .slice none 0 0] 32)).heap.size ((w.alloc (Obj.cells #[.int .i64 11, .string nm, .int .i64 num, .int .i64 k1, .slice a1 n1 c1, .int .i64 k2, .slice a2 n2 c2, .int .i64 lb, .slice a3 ts.length c3] 35)).alloc (Obj.cells #[.int .i64 0, .slice none 0 0] 32)) W) => ht1.below (below_trans HB.out h))
  have HT2 := hid (fun (W : World) (h : Below ((w.alloc (Obj.cells #[.int .i64 11, .string nm, .int .i64 num, .int .i64 k1, .slice a1 n1 c1, .int .i64 k2, .slice a2 n2 c2, .int .i64 lb, .slice a3 ts.length c3] 35)).alloc (Obj.cells #[.int .i64 0, .slice none 0 0] 32)).heap.size ((w.alloc (Obj.cells #[.int .i64 11, .string nm, .int .i64 num, .int .i64 k1, .slice a1 n1 c1, .int .i64 k2, .slice a2 n2 c2, .int .i64 lb, .slice a3 ts.length c3] 35)).alloc (Obj.cells #[.int .i64 0, .slice none 0 0] 32)) W) => ht2.below (below_trans HB.out h))
  have HTY := hid hty
  have HS := hid (fun (W : World) (h : Below ((w.alloc (Obj.cells #[.int .i64 11, .string nm, .int .i64 num, .int .i64 k1, .slice a1 n1 c1, .int .i64 k2, .slice a2 n2 c2, .int .i64 lb, .slice a3 ts.length c3] 35)).alloc (Obj.cells #[.int .i64 0, .slice none 0 0] 32)).heap.size ((w.alloc (Obj.cells #[.int .i64 11, .string nm, .int .i64 num, .int .i64 k1, .slice a1 n1 c1, .int .i64 k2, .slice a2 n2 c2, .int .i64 lb, .slice a3 ts.length c3] 35)).alloc (Obj.cells #[.int .i64 0, .slice none 0 0] 32)) W) => (show W.cell? ⟨bx, ox, none⟩ = some (.int .i64 kx) ∧ W.cell? ⟨bx, ox + 1, none⟩ = some (.slice ax nx cx) from ⟨cell_keep ex0 h, cell_keep ex1 h⟩))
  have HSP := hid (fun (W : World) (x y : Value) (h : Below ((w.alloc (Obj.cells #[.int .i64 11, .string nm, .int .i64 num, .int .i64 k1, .slice a1 n1 c1, .int .i64 k2, .slice a2 n2 c2, .int .i64 lb, .slice a3 ts.length c3] 35)).alloc (Obj.cells #[.int .i64 0, .slice none 0 0] 32)).heap.size ((w.alloc (Obj.cells #[.int .i64 11, .string nm, .int .i64 num, .int .i64 k1, .slice a1 n1 c1, .int .i64 k2, .slice a2 n2 c2, .int .i64 lb, .slice a3 ts.length c3] 35)).alloc (Obj.cells #[.int .i64 0, .slice none 0 0] 32)) W) => (show ((W.setCell ⟨w.heap.size + 1, 0, none⟩ x).setCell ⟨w.heap.size + 1, 1, none⟩ y).cell? ⟨bx, ox, none⟩ = some (.int .i64 kx) ∧ ((W.setCell ⟨w.heap.size + 1, 0, none⟩ x).setCell ⟨w.heap.size + 1, 1, none⟩ y).cell? ⟨bx, ox + 1, none⟩ = some (.slice ax nx cx) from ⟨two_keepS (cell_keep ex0 h) (by omega) _ _, two_keepS (cell_keep ex1 h) (by omega) _ _⟩))
  clear hat hus hlen hvl hs3 ht1 ht2 hget hcap hmx hty hkx hl0
  have HR0 := hid (show resE 11 ty fr [u] = none from by
    have hb : (knd u == 5) = false := by rw [beq_eq_false_iff_ne]; exact hkd
    simp [resE, nth, hb])
  clear hkd
  go_enter Tryd.func121, Tryd.ntmps121
  go_wp2_with fail
  generalize ((w.alloc (Obj.cells #[.int .i64 11, .string nm, .int .i64 num, .int .i64 k1, .slice a1 n1 c1, .int .i64 k2, .slice a2 n2 c2, .int .i64 lb, .slice a3 ts.length c3] 35)).alloc (Obj.cells #[.int .i64 0, .slice none 0 0] 32)) = Z at *
  have hzS : w.heap.size + 1 < Z.heap.size := by rw [HSZ.out]; omega
  have qq := ((Below.refl Z.heap.size Z).block _ (lt_of_block HQ.out)).trans HQ.out
  have r0 : Z.cell? ⟨w.heap.size + 1, 0, none⟩ = some (.int .i64 0) := by rw [cell_of_block qq]; rfl
  have r1 : Z.cell? ⟨w.heap.size + 1, 1, none⟩ = some (.slice none 0 0) := by rw [cell_of_block qq]; rfl
  have rz := fun o => frozen_of_block (o := o) qq
  have rl := lt_of_block qq
  have FIN := hid (show MadeTO w (resE 11 ty fr [u]) (.returned (.tuple #[.agg #[.int .i64 0, .slice none 0 0], .bool false])) Z from by rw [HR0.out]; exact ⟨.mk 0 [], (fun u h => by cases h), _, [], rfl, leaf_ty Z 0, Fresh.nil _ _, HB.out⟩)
  clear HS HSP HB HQ
  exact bodyPost_ret (v := .tuple #[.agg #[.int .i64 0, .slice none 0 0], .bool false]) (by simp [results, Tryd.results121, go_sem, r0, r1]) rfl FIN.out

set_option maxRecDepth 100000 in
set_option maxHeartbeats 4000000 in
theorem ex_11y : ∀ (nm : ByteArray) (num : Int) (ty fr : Ty) (lb : Int) (ts : List Tm) (v : Value) (fe : List Nat) (us : List Ty) (s : Value) (fu : List Nat) (w : World),
  Tm.At w (.mk 11 nm num ty fr lb ts) v fe → SlAt w us s fu → kidsM 11 = (us.length : Int) → (∀ u ∈ us, vld u = true) → ((11 : Int) = 14 → vld ty = true ∧ vld fr = true) → knd (nth us 0) = 5 →
  Calls Tryd.prog 121 #[v, s] w (MadeTO w (resE 11 ty fr us)) := by
  intro nm num ty fr lb ts v fe us s fu w hat hus hlen hvl hty hkd
  obtain ⟨k1, n1, a1, c1, k2, n2, a2, c2, a3, c3, f1, f2, f3, rfl, hnm, ht1, ht2, rfl, hs3⟩ := hat.parts
  have HB := hid (show Below w.heap.size w ((w.alloc (Obj.cells #[.int .i64 11, .string nm, .int .i64 num, .int .i64 k1, .slice a1 n1 c1, .int .i64 k2, .slice a2 n2 c2, .int .i64 lb, .slice a3 ts.length c3] 35)).alloc (Obj.cells #[.int .i64 0, .slice none 0 0] 32)) from ((Below.refl _ _).alloc (Nat.le_refl _) _).alloc (by simp) _)
  have HSZ := hid (show ((w.alloc (Obj.cells #[.int .i64 11, .string nm, .int .i64 num, .int .i64 k1, .slice a1 n1 c1, .int .i64 k2, .slice a2 n2 c2, .int .i64 lb, .slice a3 ts.length c3] 35)).alloc (Obj.cells #[.int .i64 0, .slice none 0 0] 32)).heap.size = w.heap.size + 1 + 1 by simp)
  have HQ := hid (two_out (Below.refl _ ((w.alloc (Obj.cells #[.int .i64 11, .string nm, .int .i64 num, .int .i64 k1, .slice a1 n1 c1, .int .i64 k2, .slice a2 n2 c2, .int .i64 lb, .slice a3 ts.length c3] 35)).alloc (Obj.cells #[.int .i64 0, .slice none 0 0] 32)))).2
  obtain ⟨z0, z1, z2, z3, z4, z5, z6, z7, z8⟩ := cells9 (two_out (Below.refl _ ((w.alloc (Obj.cells #[.int .i64 11, .string nm, .int .i64 num, .int .i64 k1, .slice a1 n1 c1, .int .i64 k2, .slice a2 n2 c2, .int .i64 lb, .slice a3 ts.length c3] 35)).alloc (Obj.cells #[.int .i64 0, .slice none 0 0] 32)))).1
  have hl0 : us.length = 1 := by have : kidsM 11 = 1 := (by decide); omega
  obtain ⟨u, rfl⟩ := List.length_eq_one_iff.1 hl0
  obtain ⟨sa, sc, hss, hcap, hmx, hget⟩ := hus.openA
  subst hss
  obtain ⟨bx, ox, kx, nx, ax, cx, gx, hpx, hltx, ex0, ex1, hkx, -⟩ := hget 0 (by simp)
  subst hpx
  simp (config := { failIfUnchanged := false }) only [Nat.zero_mul, Nat.add_zero, List.getElem_cons_zero] at ex0 ex1 hkx
  obtain ⟨ku, tsu, rfl⟩ := u.shape
  obtain rfl : ku = 5 := hkd
  obtain ⟨p, r, rfl⟩ := two_of (.inr rfl) (hvl (.mk 5 tsu) (by simp))
  have hkx0 := hkx
  obtain ⟨rfl, rfl, hcx, bi, oi, kp, np, ap, cp, kr, nr, ar, cr, gp, gr, rfl, hlti, ei0, ei1, ei2, ei3, hkp, hkr⟩ := two_kids hkx0
  have HVp := hid (vld_kid (hvl (.mk 5 [p, r]) (by simp)) (t := p) (by simp))
  have HVr := hid (vld_kid (hvl (.mk 5 [p, r]) (by simp)) (t := r) (by simp))
  clear hkx0
  replace ex0 := cell_keep ex0 HB.out
  replace ex1 := cell_keep ex1 HB.out
  have HVx := hid (hvl (.mk 5 [p, r]) (by simp))
  have HKx := hid (fun (W : World) (h : Below ((w.alloc (Obj.cells #[.int .i64 11, .string nm, .int .i64 num, .int .i64 k1, .slice a1 n1 c1, .int .i64 k2, .slice a2 n2 c2, .int .i64 lb, .slice a3 ts.length c3] 35)).alloc (Obj.cells #[.int .i64 0, .slice none 0 0] 32)).heap.size ((w.alloc (Obj.cells #[.int .i64 11, .string nm, .int .i64 num, .int .i64 k1, .slice a1 n1 c1, .int .i64 k2, .slice a2 n2 c2, .int .i64 lb, .slice a3 ts.length c3] 35)).alloc (Obj.cells #[.int .i64 0, .slice none 0 0] 32)) W) => hkx.below (below_trans HB.out h))
  replace ei0 := cell_keep ei0 HB.out
  replace ei1 := cell_keep ei1 HB.out
  replace ei2 := cell_keep ei2 HB.out
  replace ei3 := cell_keep ei3 HB.out
  have HKp := hid (fun (W : World) (h : Below ((w.alloc (Obj.cells #[.int .i64 11, .string nm, .int .i64 num, .int .i64 k1, .slice a1 n1 c1, .int .i64 k2, .slice a2 n2 c2, .int .i64 lb, .slice a3 ts.length c3] 35)).alloc (Obj.cells #[.int .i64 0, .slice none 0 0] 32)).heap.size ((w.alloc (Obj.cells #[.int .i64 11, .string nm, .int .i64 num, .int .i64 k1, .slice a1 n1 c1, .int .i64 k2, .slice a2 n2 c2, .int .i64 lb, .slice a3 ts.length c3] 35)).alloc (Obj.cells #[.int .i64 0, .slice none 0 0] 32)) W) => hkp.below (below_trans HB.out h))
  have HKr := hid (fun (W : World) (h : Below ((w.alloc (Obj.cells #[.int .i64 11, .string nm, .int .i64 num, .int .i64 k1, .slice a1 n1 c1, .int .i64 k2, .slice a2 n2 c2, .int .i64 lb, .slice a3 ts.length c3] 35)).alloc (Obj.cells #[.int .i64 0, .slice none 0 0] 32)).heap.size ((w.alloc (Obj.cells #[.int .i64 11, .string nm, .int .i64 num, .int .i64 k1, .slice a1 n1 c1, .int .i64 k2, .slice a2 n2 c2, .int .i64 lb, .slice a3 ts.length c3] 35)).alloc (Obj.cells #[.int .i64 0, .slice none 0 0] 32)) W) => hkr.below (below_trans HB.out h))
  have HT1 := hid (fun (W : World) (h : Below ((w.alloc (Obj.cells #[.int .i64 11, .string nm, .int .i64 num, .int .i64 k1, .slice a1 n1 c1, .int .i64 k2, .slice a2 n2 c2, .int .i64 lb, .slice a3 ts.length c3] 35)).alloc (Obj.cells #[.int .i64 0, .slice none 0 0] 32)).heap.size ((w.alloc (Obj.cells #[.int .i64 11, .string nm, .int .i64 num, .int .i64 k1, .slice a1 n1 c1, .int .i64 k2, .slice a2 n2 c2, .int .i64 lb, .slice a3 ts.length c3] 35)).alloc (Obj.cells #[.int .i64 0, .slice none 0 0] 32)) W) => ht1.below (below_trans HB.out h))
  have HT2 := hid (fun (W : World) (h : Below ((w.alloc (Obj.cells #[.int .i64 11, .string nm, .int .i64 num, .int .i64 k1, .slice a1 n1 c1, .int .i64 k2, .slice a2 n2 c2, .int .i64 lb, .slice a3 ts.length c3] 35)).alloc (Obj.cells #[.int .i64 0, .slice none 0 0] 32)).heap.size ((w.alloc (Obj.cells #[.int .i64 11, .string nm, .int .i64 num, .int .i64 k1, .slice a1 n1 c1, .int .i64 k2, .slice a2 n2 c2, .int .i64 lb, .slice a3 ts.length c3] 35)).alloc (Obj.cells #[.int .i64 0, .slice none 0 0] 32)) W) => ht2.below (below_trans HB.out h))
  have HTY := hid hty
  have HS := hid (fun (W : World) (h : Below ((w.alloc (Obj.cells #[.int .i64 11, .string nm, .int .i64 num, .int .i64 k1, .slice a1 n1 c1, .int .i64 k2, .slice a2 n2 c2, .int .i64 lb, .slice a3 ts.length c3] 35)).alloc (Obj.cells #[.int .i64 0, .slice none 0 0] 32)).heap.size ((w.alloc (Obj.cells #[.int .i64 11, .string nm, .int .i64 num, .int .i64 k1, .slice a1 n1 c1, .int .i64 k2, .slice a2 n2 c2, .int .i64 lb, .slice a3 ts.length c3] 35)).alloc (Obj.cells #[.int .i64 0, .slice none 0 0] 32)) W) => (show W.cell? ⟨bx, ox, none⟩ = some (.int .i64 5) ∧ W.cell? ⟨bx, ox + 1, none⟩ = some (.slice (some ⟨bi, oi, none⟩) 2 cx) ∧ W.cell? ⟨bi, oi, none⟩ = some (.int .i64 kp) ∧ W.cell? ⟨bi, oi + 1, none⟩ = some (.slice ap np cp) ∧ W.cell? ⟨bi, oi + 2, none⟩ = some (.int .i64 kr) ∧ W.cell? ⟨bi, oi + 2 + 1, none⟩ = some (.slice ar nr cr) ∧ W.cell? ⟨w.heap.size, 0, none⟩ = some (.int .i64 11) from ⟨cell_keep ex0 h, cell_keep ex1 h, cell_keep ei0 h, cell_keep ei1 h, cell_keep ei2 h, cell_keep ei3 h, cell_keep z0 h⟩))
  have HSP := hid (fun (W : World) (x y : Value) (h : Below ((w.alloc (Obj.cells #[.int .i64 11, .string nm, .int .i64 num, .int .i64 k1, .slice a1 n1 c1, .int .i64 k2, .slice a2 n2 c2, .int .i64 lb, .slice a3 ts.length c3] 35)).alloc (Obj.cells #[.int .i64 0, .slice none 0 0] 32)).heap.size ((w.alloc (Obj.cells #[.int .i64 11, .string nm, .int .i64 num, .int .i64 k1, .slice a1 n1 c1, .int .i64 k2, .slice a2 n2 c2, .int .i64 lb, .slice a3 ts.length c3] 35)).alloc (Obj.cells #[.int .i64 0, .slice none 0 0] 32)) W) => (show ((W.setCell ⟨w.heap.size + 1, 0, none⟩ x).setCell ⟨w.heap.size + 1, 1, none⟩ y).cell? ⟨bx, ox, none⟩ = some (.int .i64 5) ∧ ((W.setCell ⟨w.heap.size + 1, 0, none⟩ x).setCell ⟨w.heap.size + 1, 1, none⟩ y).cell? ⟨bx, ox + 1, none⟩ = some (.slice (some ⟨bi, oi, none⟩) 2 cx) ∧ ((W.setCell ⟨w.heap.size + 1, 0, none⟩ x).setCell ⟨w.heap.size + 1, 1, none⟩ y).cell? ⟨bi, oi, none⟩ = some (.int .i64 kp) ∧ ((W.setCell ⟨w.heap.size + 1, 0, none⟩ x).setCell ⟨w.heap.size + 1, 1, none⟩ y).cell? ⟨bi, oi + 1, none⟩ = some (.slice ap np cp) ∧ ((W.setCell ⟨w.heap.size + 1, 0, none⟩ x).setCell ⟨w.heap.size + 1, 1, none⟩ y).cell? ⟨bi, oi + 2, none⟩ = some (.int .i64 kr) ∧ ((W.setCell ⟨w.heap.size + 1, 0, none⟩ x).setCell ⟨w.heap.size + 1, 1, none⟩ y).cell? ⟨bi, oi + 2 + 1, none⟩ = some (.slice ar nr cr) ∧ ((W.setCell ⟨w.heap.size + 1, 0, none⟩ x).setCell ⟨w.heap.size + 1, 1, none⟩ y).cell? ⟨w.heap.size, 0, none⟩ = some (.int .i64 11) from ⟨two_keepS (cell_keep ex0 h) (by omega) _ _, two_keepS (cell_keep ex1 h) (by omega) _ _, two_keepS (cell_keep ei0 h) (by omega) _ _, two_keepS (cell_keep ei1 h) (by omega) _ _, two_keepS (cell_keep ei2 h) (by omega) _ _, two_keepS (cell_keep ei3 h) (by omega) _ _, two_keepS (cell_keep z0 h) (by omega) _ _⟩))
  clear hat hus hlen hvl hs3 ht1 ht2 hget hcap hmx hty hkx hl0 hkp hkr
  have hw9 : IntKind.i64.wrap 0 = 0 := by decide
  have HR2 := hid (show resE 11 ty fr [.mk 5 [p, r]] = some p from by simp [resE, nth, knd, kd2, kids2])
  go_enter Tryd.func121, Tryd.ntmps121
  go_wp2_with fail
  generalize ((w.alloc (Obj.cells #[.int .i64 11, .string nm, .int .i64 num, .int .i64 k1, .slice a1 n1 c1, .int .i64 k2, .slice a2 n2 c2, .int .i64 lb, .slice a3 ts.length c3] 35)).alloc (Obj.cells #[.int .i64 0, .slice none 0 0] 32)) = Z at *
  have hzS : w.heap.size + 1 < Z.heap.size := by rw [HSZ.out]; omega
  refine regionL (s := 11) (S0 := (fun w' => w'.cell? ⟨bx, ox, none⟩ = some (.int .i64 5) ∧ w'.cell? ⟨bx, ox + 1, none⟩ = some (.slice (some ⟨bi, oi, none⟩) 2 cx) ∧ w'.cell? ⟨bi, oi, none⟩ = some (.int .i64 kp) ∧ w'.cell? ⟨bi, oi + 1, none⟩ = some (.slice ap np cp) ∧ w'.cell? ⟨bi, oi + 2, none⟩ = some (.int .i64 kr) ∧ w'.cell? ⟨bi, oi + 2 + 1, none⟩ = some (.slice ar nr cr) ∧ w'.cell? ⟨w.heap.size, 0, none⟩ = some (.int .i64 11))) (S1 := (fun _ => True)) (by kernel_rfl) (HS.out _ (below_drew Z)) (trivial) (fun hS0 => ?_)
  refine takeL0 (i := 0) (v := ?vd111) rfl rfl (by kernel_rfl) (by kernel_rfl) (by kernel_rfl) (by decide) (by kernel_rfl) (by kernel_rfl) (fun _ _ _ h => h) (Or.inl ⟨by rfl, ?hyd111⟩) (by assumption) ?_
  case hyd111 => (intro w hSw; (try dsimp only at hSw); go_simp; (try with_reducible rfl))
  try simp only [Act.put, List.setIfInBounds_toArray, List.set_cons_zero, List.set_cons_succ]
  refine takeL0 (i := 1) (v := ?vd112) rfl rfl (by kernel_rfl) (by kernel_rfl) (by kernel_rfl) (by decide) (by kernel_rfl) (by kernel_rfl) (fun _ _ _ h => h) (Or.inl ⟨by rfl, ?hyd112⟩) (by assumption) ?_
  case hyd112 => (intro w hSw; (try dsimp only at hSw); go_simp; (try with_reducible rfl))
  try simp only [Act.put, List.setIfInBounds_toArray, List.set_cons_zero, List.set_cons_succ]
  refine takeL0 (i := 2) (v := ?vd113) rfl rfl (by kernel_rfl) (by kernel_rfl) (by kernel_rfl) (by decide) (by kernel_rfl) (by kernel_rfl) (fun _ _ _ h => h) (Or.inl ⟨by rfl, ?hyd113⟩) (by assumption) ?_
  case hyd113 => (intro w hSw; (try dsimp only at hSw); go_simp; (try with_reducible rfl))
  try simp only [Act.put, List.setIfInBounds_toArray, List.set_cons_zero, List.set_cons_succ]
  refine takeL0 (i := 3) (v := ?vd114) rfl rfl (by kernel_rfl) (by kernel_rfl) (by kernel_rfl) (by decide) (by kernel_rfl) (by kernel_rfl) (fun _ _ _ h => h) (Or.inl ⟨by rfl, ?hyd114⟩) (by assumption) ?_
  case hyd114 => (intro w hSw; (try dsimp only at hSw); go_simp; (try with_reducible rfl))
  try simp only [Act.put, List.setIfInBounds_toArray, List.set_cons_zero, List.set_cons_succ]
  refine takeL0 (i := 4) (v := ?vd115) rfl rfl (by kernel_rfl) (by kernel_rfl) (by kernel_rfl) (by decide) (by kernel_rfl) (by kernel_rfl) (fun _ _ _ h => h) (Or.inl ⟨by rfl, ?hyd115⟩) (by assumption) ?_
  case hyd115 => (intro w hSw; (try dsimp only at hSw); go_simp; (try with_reducible rfl))
  try simp only [Act.put, List.setIfInBounds_toArray, List.set_cons_zero, List.set_cons_succ]
  refine takeL0 (i := 5) (v := ?vd116) rfl rfl (by kernel_rfl) (by kernel_rfl) (by kernel_rfl) (by decide) (by kernel_rfl) (by kernel_rfl) (fun _ _ _ h => h) (Or.inl ⟨by rfl, ?hyd116⟩) (by assumption) ?_
  case hyd116 => (intro w hSw; (try dsimp only at hSw); go_simp; (try with_reducible rfl))
  try simp only [Act.put, List.setIfInBounds_toArray, List.set_cons_zero, List.set_cons_succ]
  refine takeL0 (i := 6) (v := ?vd117) rfl rfl (by kernel_rfl) (by kernel_rfl) (by kernel_rfl) (by decide) (by kernel_rfl) (by kernel_rfl) (fun _ _ _ h => h) (Or.inl ⟨by rfl, ?hyd117⟩) (by assumption) ?_
  case hyd117 => (intro w hSw; (try dsimp only at hSw); go_simp; (try with_reducible rfl))
  try simp only [Act.put, List.setIfInBounds_toArray, List.set_cons_zero, List.set_cons_succ]
  refine takeL0 (i := 7) (v := ?vd118) rfl rfl (by kernel_rfl) (by kernel_rfl) (by kernel_rfl) (by decide) (by kernel_rfl) (by kernel_rfl) (fun _ _ _ h => h) (Or.inl ⟨by rfl, ?hyd118⟩) (by assumption) ?_
  case hyd118 => (intro w hSw; (try dsimp only at hSw); go_simp; (try with_reducible rfl))
  try simp only [Act.put, List.setIfInBounds_toArray, List.set_cons_zero, List.set_cons_succ]
  refine takeL0 (i := 8) (v := ?vd119) rfl rfl (by kernel_rfl) (by kernel_rfl) (by kernel_rfl) (by decide) (by kernel_rfl) (by kernel_rfl) (fun _ _ _ h => h) (Or.inl ⟨by rfl, ?hyd119⟩) (by assumption) ?_
  case hyd119 => (intro w hSw; (try dsimp only at hSw); go_simp; (try with_reducible rfl))
  try simp only [Act.put, List.setIfInBounds_toArray, List.set_cons_zero, List.set_cons_succ]
  refine readyL (rs := [9]) (by kernel_rfl) (by simp) ?_
  refine AllReadyL.cons rfl (fun K hK => ?_) AllReadyL.nil
  go_simp
  refine (l1Copy_any p _ _ _ (HKp.out _ (below_drew Z)) (shp_cnt8 HVp.out (by omega))).mono ?_
  rintro e y9 ⟨v6, f6, rfl, hat6, hf6, hy9⟩
  have hk9 : Below Z.heap.size Z y9 := below_trans (below_drew Z) hy9
  obtain ⟨k6, n6, a6, c6, rfl⟩ := hat6.agg
  refine hK.out _ _ ?_ (fun hS1 => ?_)
  · exact ⟨trivial, fun _ => HS.out _ hk9⟩
  clear hK K hS0
  try simp only [Act.put, List.setIfInBounds_toArray, List.set_cons_zero, List.set_cons_succ]
  refine readyL (rs := [10]) (by kernel_rfl) (by simp) ?_
  refine AllReadyL.cons rfl (fun K hK => ?_) AllReadyL.nil
  have qq := (hk9.block _ (lt_of_block HQ.out)).trans HQ.out
  have r0 : y9.cell? ⟨w.heap.size + 1, 0, none⟩ = some (.int .i64 0) := by rw [cell_of_block qq]; rfl
  have r1 : y9.cell? ⟨w.heap.size + 1, 1, none⟩ = some (.slice none 0 0) := by rw [cell_of_block qq]; rfl
  have rz := fun o => frozen_of_block (o := o) qq
  have rl := lt_of_block qq
  go_simp
  refine hK.out _ _ ?_ (fun hS2 => ?_)
  · exact ⟨trivial, fun _ => HSP.out y9 _ _ hk9⟩
  clear hK K hS1
  try simp only [Act.put, List.setIfInBounds_toArray, List.set_cons_zero, List.set_cons_succ]
  refine readyL (rs := [11]) (by kernel_rfl) (by simp) ?_
  refine AllReadyL.cons rfl (fun K hK => ?_) AllReadyL.nil
  go_simp
  refine hK.out _ _ ?_ (fun hS3 => ?_)
  · exact ⟨trivial, fun h => absurd (h.symm.trans (show _ = true by kernel_rfl)) (by decide)⟩
  clear hK K hS2
  try simp only [Act.put, List.setIfInBounds_toArray, List.set_cons_zero, List.set_cons_succ]
  refine doneL (by kernel_rfl) ?_ _
  have FIN := hid (MadeTO.stored (w := w) (P := w.heap.size + 1) (o := resE 11 ty fr [.mk 5 [p, r]]) (T := p) (fun x h => by rw [HR2.out] at h; cases h; rfl) (by rw [HR2.out] <;> rfl) hat6 (hf6.mono (below_drew Z).size) (by omega) (by omega) (below_trans HB.out hk9))
  clear HS HSP HB HQ
  go_wp2_with fail
  exact bodyPost_ret (v := .tuple #[.agg #[.int .i64 k6, .slice a6 n6 c6], .bool true]) (by simp [results, Tryd.results121, go_sem, r0, r1]) rfl (by first | exact FIN.out | (rw [HRES.out]; exact FIN.out))

set_option maxRecDepth 100000 in
set_option maxHeartbeats 4000000 in
theorem ex_12n : ∀ (nm : ByteArray) (num : Int) (ty fr : Ty) (lb : Int) (ts : List Tm) (v : Value) (fe : List Nat) (us : List Ty) (s : Value) (fu : List Nat) (w : World),
  Tm.At w (.mk 12 nm num ty fr lb ts) v fe → SlAt w us s fu → kidsM 12 = (us.length : Int) → (∀ u ∈ us, vld u = true) → ((12 : Int) = 14 → vld ty = true ∧ vld fr = true) → knd (nth us 0) ≠ 5 →
  Calls Tryd.prog 121 #[v, s] w (MadeTO w (resE 12 ty fr us)) := by
  intro nm num ty fr lb ts v fe us s fu w hat hus hlen hvl hty hkd
  obtain ⟨k1, n1, a1, c1, k2, n2, a2, c2, a3, c3, f1, f2, f3, rfl, hnm, ht1, ht2, rfl, hs3⟩ := hat.parts
  have HB := hid (show Below w.heap.size w ((w.alloc (Obj.cells #[.int .i64 12, .string nm, .int .i64 num, .int .i64 k1, .slice a1 n1 c1, .int .i64 k2, .slice a2 n2 c2, .int .i64 lb, .slice a3 ts.length c3] 35)).alloc (Obj.cells #[.int .i64 0, .slice none 0 0] 32)) from ((Below.refl _ _).alloc (Nat.le_refl _) _).alloc (by simp) _)
  have HSZ := hid (show ((w.alloc (Obj.cells #[.int .i64 12, .string nm, .int .i64 num, .int .i64 k1, .slice a1 n1 c1, .int .i64 k2, .slice a2 n2 c2, .int .i64 lb, .slice a3 ts.length c3] 35)).alloc (Obj.cells #[.int .i64 0, .slice none 0 0] 32)).heap.size = w.heap.size + 1 + 1 by simp)
  have HQ := hid (two_out (Below.refl _ ((w.alloc (Obj.cells #[.int .i64 12, .string nm, .int .i64 num, .int .i64 k1, .slice a1 n1 c1, .int .i64 k2, .slice a2 n2 c2, .int .i64 lb, .slice a3 ts.length c3] 35)).alloc (Obj.cells #[.int .i64 0, .slice none 0 0] 32)))).2
  obtain ⟨z0, z1, z2, z3, z4, z5, z6, z7, z8⟩ := cells9 (two_out (Below.refl _ ((w.alloc (Obj.cells #[.int .i64 12, .string nm, .int .i64 num, .int .i64 k1, .slice a1 n1 c1, .int .i64 k2, .slice a2 n2 c2, .int .i64 lb, .slice a3 ts.length c3] 35)).alloc (Obj.cells #[.int .i64 0, .slice none 0 0] 32)))).1
  have hl0 : us.length = 1 := by have : kidsM 12 = 1 := (by decide); omega
  obtain ⟨u, rfl⟩ := List.length_eq_one_iff.1 hl0
  obtain ⟨sa, sc, hss, hcap, hmx, hget⟩ := hus.openA
  subst hss
  obtain ⟨bx, ox, kx, nx, ax, cx, gx, hpx, hltx, ex0, ex1, hkx, -⟩ := hget 0 (by simp)
  subst hpx
  simp (config := { failIfUnchanged := false }) only [Nat.zero_mul, Nat.add_zero, List.getElem_cons_zero] at ex0 ex1 hkx
  have hkk : (kx == 5) = false := by
    obtain ⟨ku, tsu, rfl⟩ := u.shape
    obtain ⟨s', e, -⟩ := Ty.at_mk.1 hkx
    simp only [Value.agg.injEq, Array.mk.injEq, List.cons.injEq, Value.int.injEq, true_and, and_true] at e
    obtain ⟨rfl, -⟩ := e
    have h : ¬ kx = 5 := hkd
    simpa using h
  have hkn : ¬ kx = 5 := by simpa using hkk
  have hkm : (kx != 5) = true := by rw [bne, hkk]; rfl
  replace ex0 := cell_keep ex0 HB.out
  replace ex1 := cell_keep ex1 HB.out
  have HVx := hid (hvl u (by simp))
  have HKx := hid (fun (W : World) (h : Below ((w.alloc (Obj.cells #[.int .i64 12, .string nm, .int .i64 num, .int .i64 k1, .slice a1 n1 c1, .int .i64 k2, .slice a2 n2 c2, .int .i64 lb, .slice a3 ts.length c3] 35)).alloc (Obj.cells #[.int .i64 0, .slice none 0 0] 32)).heap.size ((w.alloc (Obj.cells #[.int .i64 12, .string nm, .int .i64 num, .int .i64 k1, .slice a1 n1 c1, .int .i64 k2, .slice a2 n2 c2, .int .i64 lb, .slice a3 ts.length c3] 35)).alloc (Obj.cells #[.int .i64 0, .slice none 0 0] 32)) W) => hkx.below (below_trans HB.out h))
  have HT1 := hid (fun (W : World) (h : Below ((w.alloc (Obj.cells #[.int .i64 12, .string nm, .int .i64 num, .int .i64 k1, .slice a1 n1 c1, .int .i64 k2, .slice a2 n2 c2, .int .i64 lb, .slice a3 ts.length c3] 35)).alloc (Obj.cells #[.int .i64 0, .slice none 0 0] 32)).heap.size ((w.alloc (Obj.cells #[.int .i64 12, .string nm, .int .i64 num, .int .i64 k1, .slice a1 n1 c1, .int .i64 k2, .slice a2 n2 c2, .int .i64 lb, .slice a3 ts.length c3] 35)).alloc (Obj.cells #[.int .i64 0, .slice none 0 0] 32)) W) => ht1.below (below_trans HB.out h))
  have HT2 := hid (fun (W : World) (h : Below ((w.alloc (Obj.cells #[.int .i64 12, .string nm, .int .i64 num, .int .i64 k1, .slice a1 n1 c1, .int .i64 k2, .slice a2 n2 c2, .int .i64 lb, .slice a3 ts.length c3] 35)).alloc (Obj.cells #[.int .i64 0, .slice none 0 0] 32)).heap.size ((w.alloc (Obj.cells #[.int .i64 12, .string nm, .int .i64 num, .int .i64 k1, .slice a1 n1 c1, .int .i64 k2, .slice a2 n2 c2, .int .i64 lb, .slice a3 ts.length c3] 35)).alloc (Obj.cells #[.int .i64 0, .slice none 0 0] 32)) W) => ht2.below (below_trans HB.out h))
  have HTY := hid hty
  have HS := hid (fun (W : World) (h : Below ((w.alloc (Obj.cells #[.int .i64 12, .string nm, .int .i64 num, .int .i64 k1, .slice a1 n1 c1, .int .i64 k2, .slice a2 n2 c2, .int .i64 lb, .slice a3 ts.length c3] 35)).alloc (Obj.cells #[.int .i64 0, .slice none 0 0] 32)).heap.size ((w.alloc (Obj.cells #[.int .i64 12, .string nm, .int .i64 num, .int .i64 k1, .slice a1 n1 c1, .int .i64 k2, .slice a2 n2 c2, .int .i64 lb, .slice a3 ts.length c3] 35)).alloc (Obj.cells #[.int .i64 0, .slice none 0 0] 32)) W) => (show W.cell? ⟨bx, ox, none⟩ = some (.int .i64 kx) ∧ W.cell? ⟨bx, ox + 1, none⟩ = some (.slice ax nx cx) from ⟨cell_keep ex0 h, cell_keep ex1 h⟩))
  have HSP := hid (fun (W : World) (x y : Value) (h : Below ((w.alloc (Obj.cells #[.int .i64 12, .string nm, .int .i64 num, .int .i64 k1, .slice a1 n1 c1, .int .i64 k2, .slice a2 n2 c2, .int .i64 lb, .slice a3 ts.length c3] 35)).alloc (Obj.cells #[.int .i64 0, .slice none 0 0] 32)).heap.size ((w.alloc (Obj.cells #[.int .i64 12, .string nm, .int .i64 num, .int .i64 k1, .slice a1 n1 c1, .int .i64 k2, .slice a2 n2 c2, .int .i64 lb, .slice a3 ts.length c3] 35)).alloc (Obj.cells #[.int .i64 0, .slice none 0 0] 32)) W) => (show ((W.setCell ⟨w.heap.size + 1, 0, none⟩ x).setCell ⟨w.heap.size + 1, 1, none⟩ y).cell? ⟨bx, ox, none⟩ = some (.int .i64 kx) ∧ ((W.setCell ⟨w.heap.size + 1, 0, none⟩ x).setCell ⟨w.heap.size + 1, 1, none⟩ y).cell? ⟨bx, ox + 1, none⟩ = some (.slice ax nx cx) from ⟨two_keepS (cell_keep ex0 h) (by omega) _ _, two_keepS (cell_keep ex1 h) (by omega) _ _⟩))
  clear hat hus hlen hvl hs3 ht1 ht2 hget hcap hmx hty hkx hl0
  have HR0 := hid (show resE 12 ty fr [u] = none from by
    have hb : (knd u == 5) = false := by rw [beq_eq_false_iff_ne]; exact hkd
    simp [resE, nth, hb])
  clear hkd
  go_enter Tryd.func121, Tryd.ntmps121
  go_wp2_with fail
  generalize ((w.alloc (Obj.cells #[.int .i64 12, .string nm, .int .i64 num, .int .i64 k1, .slice a1 n1 c1, .int .i64 k2, .slice a2 n2 c2, .int .i64 lb, .slice a3 ts.length c3] 35)).alloc (Obj.cells #[.int .i64 0, .slice none 0 0] 32)) = Z at *
  have hzS : w.heap.size + 1 < Z.heap.size := by rw [HSZ.out]; omega
  have qq := ((Below.refl Z.heap.size Z).block _ (lt_of_block HQ.out)).trans HQ.out
  have r0 : Z.cell? ⟨w.heap.size + 1, 0, none⟩ = some (.int .i64 0) := by rw [cell_of_block qq]; rfl
  have r1 : Z.cell? ⟨w.heap.size + 1, 1, none⟩ = some (.slice none 0 0) := by rw [cell_of_block qq]; rfl
  have rz := fun o => frozen_of_block (o := o) qq
  have rl := lt_of_block qq
  have FIN := hid (show MadeTO w (resE 12 ty fr [u]) (.returned (.tuple #[.agg #[.int .i64 0, .slice none 0 0], .bool false])) Z from by rw [HR0.out]; exact ⟨.mk 0 [], (fun u h => by cases h), _, [], rfl, leaf_ty Z 0, Fresh.nil _ _, HB.out⟩)
  clear HS HSP HB HQ
  exact bodyPost_ret (v := .tuple #[.agg #[.int .i64 0, .slice none 0 0], .bool false]) (by simp [results, Tryd.results121, go_sem, r0, r1]) rfl FIN.out

set_option maxRecDepth 100000 in
set_option maxHeartbeats 4000000 in
theorem ex_12y : ∀ (nm : ByteArray) (num : Int) (ty fr : Ty) (lb : Int) (ts : List Tm) (v : Value) (fe : List Nat) (us : List Ty) (s : Value) (fu : List Nat) (w : World),
  Tm.At w (.mk 12 nm num ty fr lb ts) v fe → SlAt w us s fu → kidsM 12 = (us.length : Int) → (∀ u ∈ us, vld u = true) → ((12 : Int) = 14 → vld ty = true ∧ vld fr = true) → knd (nth us 0) = 5 →
  Calls Tryd.prog 121 #[v, s] w (MadeTO w (resE 12 ty fr us)) := by
  intro nm num ty fr lb ts v fe us s fu w hat hus hlen hvl hty hkd
  obtain ⟨k1, n1, a1, c1, k2, n2, a2, c2, a3, c3, f1, f2, f3, rfl, hnm, ht1, ht2, rfl, hs3⟩ := hat.parts
  have HB := hid (show Below w.heap.size w ((w.alloc (Obj.cells #[.int .i64 12, .string nm, .int .i64 num, .int .i64 k1, .slice a1 n1 c1, .int .i64 k2, .slice a2 n2 c2, .int .i64 lb, .slice a3 ts.length c3] 35)).alloc (Obj.cells #[.int .i64 0, .slice none 0 0] 32)) from ((Below.refl _ _).alloc (Nat.le_refl _) _).alloc (by simp) _)
  have HSZ := hid (show ((w.alloc (Obj.cells #[.int .i64 12, .string nm, .int .i64 num, .int .i64 k1, .slice a1 n1 c1, .int .i64 k2, .slice a2 n2 c2, .int .i64 lb, .slice a3 ts.length c3] 35)).alloc (Obj.cells #[.int .i64 0, .slice none 0 0] 32)).heap.size = w.heap.size + 1 + 1 by simp)
  have HQ := hid (two_out (Below.refl _ ((w.alloc (Obj.cells #[.int .i64 12, .string nm, .int .i64 num, .int .i64 k1, .slice a1 n1 c1, .int .i64 k2, .slice a2 n2 c2, .int .i64 lb, .slice a3 ts.length c3] 35)).alloc (Obj.cells #[.int .i64 0, .slice none 0 0] 32)))).2
  obtain ⟨z0, z1, z2, z3, z4, z5, z6, z7, z8⟩ := cells9 (two_out (Below.refl _ ((w.alloc (Obj.cells #[.int .i64 12, .string nm, .int .i64 num, .int .i64 k1, .slice a1 n1 c1, .int .i64 k2, .slice a2 n2 c2, .int .i64 lb, .slice a3 ts.length c3] 35)).alloc (Obj.cells #[.int .i64 0, .slice none 0 0] 32)))).1
  have hl0 : us.length = 1 := by have : kidsM 12 = 1 := (by decide); omega
  obtain ⟨u, rfl⟩ := List.length_eq_one_iff.1 hl0
  obtain ⟨sa, sc, hss, hcap, hmx, hget⟩ := hus.openA
  subst hss
  obtain ⟨bx, ox, kx, nx, ax, cx, gx, hpx, hltx, ex0, ex1, hkx, -⟩ := hget 0 (by simp)
  subst hpx
  simp (config := { failIfUnchanged := false }) only [Nat.zero_mul, Nat.add_zero, List.getElem_cons_zero] at ex0 ex1 hkx
  obtain ⟨ku, tsu, rfl⟩ := u.shape
  obtain rfl : ku = 5 := hkd
  obtain ⟨p, r, rfl⟩ := two_of (.inr rfl) (hvl (.mk 5 tsu) (by simp))
  have hkx0 := hkx
  obtain ⟨rfl, rfl, hcx, bi, oi, kp, np, ap, cp, kr, nr, ar, cr, gp, gr, rfl, hlti, ei0, ei1, ei2, ei3, hkp, hkr⟩ := two_kids hkx0
  have HVp := hid (vld_kid (hvl (.mk 5 [p, r]) (by simp)) (t := p) (by simp))
  have HVr := hid (vld_kid (hvl (.mk 5 [p, r]) (by simp)) (t := r) (by simp))
  clear hkx0
  replace ex0 := cell_keep ex0 HB.out
  replace ex1 := cell_keep ex1 HB.out
  have HVx := hid (hvl (.mk 5 [p, r]) (by simp))
  have HKx := hid (fun (W : World) (h : Below ((w.alloc (Obj.cells #[.int .i64 12, .string nm, .int .i64 num, .int .i64 k1, .slice a1 n1 c1, .int .i64 k2, .slice a2 n2 c2, .int .i64 lb, .slice a3 ts.length c3] 35)).alloc (Obj.cells #[.int .i64 0, .slice none 0 0] 32)).heap.size ((w.alloc (Obj.cells #[.int .i64 12, .string nm, .int .i64 num, .int .i64 k1, .slice a1 n1 c1, .int .i64 k2, .slice a2 n2 c2, .int .i64 lb, .slice a3 ts.length c3] 35)).alloc (Obj.cells #[.int .i64 0, .slice none 0 0] 32)) W) => hkx.below (below_trans HB.out h))
  replace ei0 := cell_keep ei0 HB.out
  replace ei1 := cell_keep ei1 HB.out
  replace ei2 := cell_keep ei2 HB.out
  replace ei3 := cell_keep ei3 HB.out
  have HKp := hid (fun (W : World) (h : Below ((w.alloc (Obj.cells #[.int .i64 12, .string nm, .int .i64 num, .int .i64 k1, .slice a1 n1 c1, .int .i64 k2, .slice a2 n2 c2, .int .i64 lb, .slice a3 ts.length c3] 35)).alloc (Obj.cells #[.int .i64 0, .slice none 0 0] 32)).heap.size ((w.alloc (Obj.cells #[.int .i64 12, .string nm, .int .i64 num, .int .i64 k1, .slice a1 n1 c1, .int .i64 k2, .slice a2 n2 c2, .int .i64 lb, .slice a3 ts.length c3] 35)).alloc (Obj.cells #[.int .i64 0, .slice none 0 0] 32)) W) => hkp.below (below_trans HB.out h))
  have HKr := hid (fun (W : World) (h : Below ((w.alloc (Obj.cells #[.int .i64 12, .string nm, .int .i64 num, .int .i64 k1, .slice a1 n1 c1, .int .i64 k2, .slice a2 n2 c2, .int .i64 lb, .slice a3 ts.length c3] 35)).alloc (Obj.cells #[.int .i64 0, .slice none 0 0] 32)).heap.size ((w.alloc (Obj.cells #[.int .i64 12, .string nm, .int .i64 num, .int .i64 k1, .slice a1 n1 c1, .int .i64 k2, .slice a2 n2 c2, .int .i64 lb, .slice a3 ts.length c3] 35)).alloc (Obj.cells #[.int .i64 0, .slice none 0 0] 32)) W) => hkr.below (below_trans HB.out h))
  have HT1 := hid (fun (W : World) (h : Below ((w.alloc (Obj.cells #[.int .i64 12, .string nm, .int .i64 num, .int .i64 k1, .slice a1 n1 c1, .int .i64 k2, .slice a2 n2 c2, .int .i64 lb, .slice a3 ts.length c3] 35)).alloc (Obj.cells #[.int .i64 0, .slice none 0 0] 32)).heap.size ((w.alloc (Obj.cells #[.int .i64 12, .string nm, .int .i64 num, .int .i64 k1, .slice a1 n1 c1, .int .i64 k2, .slice a2 n2 c2, .int .i64 lb, .slice a3 ts.length c3] 35)).alloc (Obj.cells #[.int .i64 0, .slice none 0 0] 32)) W) => ht1.below (below_trans HB.out h))
  have HT2 := hid (fun (W : World) (h : Below ((w.alloc (Obj.cells #[.int .i64 12, .string nm, .int .i64 num, .int .i64 k1, .slice a1 n1 c1, .int .i64 k2, .slice a2 n2 c2, .int .i64 lb, .slice a3 ts.length c3] 35)).alloc (Obj.cells #[.int .i64 0, .slice none 0 0] 32)).heap.size ((w.alloc (Obj.cells #[.int .i64 12, .string nm, .int .i64 num, .int .i64 k1, .slice a1 n1 c1, .int .i64 k2, .slice a2 n2 c2, .int .i64 lb, .slice a3 ts.length c3] 35)).alloc (Obj.cells #[.int .i64 0, .slice none 0 0] 32)) W) => ht2.below (below_trans HB.out h))
  have HTY := hid hty
  have HS := hid (fun (W : World) (h : Below ((w.alloc (Obj.cells #[.int .i64 12, .string nm, .int .i64 num, .int .i64 k1, .slice a1 n1 c1, .int .i64 k2, .slice a2 n2 c2, .int .i64 lb, .slice a3 ts.length c3] 35)).alloc (Obj.cells #[.int .i64 0, .slice none 0 0] 32)).heap.size ((w.alloc (Obj.cells #[.int .i64 12, .string nm, .int .i64 num, .int .i64 k1, .slice a1 n1 c1, .int .i64 k2, .slice a2 n2 c2, .int .i64 lb, .slice a3 ts.length c3] 35)).alloc (Obj.cells #[.int .i64 0, .slice none 0 0] 32)) W) => (show W.cell? ⟨bx, ox, none⟩ = some (.int .i64 5) ∧ W.cell? ⟨bx, ox + 1, none⟩ = some (.slice (some ⟨bi, oi, none⟩) 2 cx) ∧ W.cell? ⟨bi, oi, none⟩ = some (.int .i64 kp) ∧ W.cell? ⟨bi, oi + 1, none⟩ = some (.slice ap np cp) ∧ W.cell? ⟨bi, oi + 2, none⟩ = some (.int .i64 kr) ∧ W.cell? ⟨bi, oi + 2 + 1, none⟩ = some (.slice ar nr cr) ∧ W.cell? ⟨w.heap.size, 0, none⟩ = some (.int .i64 12) from ⟨cell_keep ex0 h, cell_keep ex1 h, cell_keep ei0 h, cell_keep ei1 h, cell_keep ei2 h, cell_keep ei3 h, cell_keep z0 h⟩))
  have HSP := hid (fun (W : World) (x y : Value) (h : Below ((w.alloc (Obj.cells #[.int .i64 12, .string nm, .int .i64 num, .int .i64 k1, .slice a1 n1 c1, .int .i64 k2, .slice a2 n2 c2, .int .i64 lb, .slice a3 ts.length c3] 35)).alloc (Obj.cells #[.int .i64 0, .slice none 0 0] 32)).heap.size ((w.alloc (Obj.cells #[.int .i64 12, .string nm, .int .i64 num, .int .i64 k1, .slice a1 n1 c1, .int .i64 k2, .slice a2 n2 c2, .int .i64 lb, .slice a3 ts.length c3] 35)).alloc (Obj.cells #[.int .i64 0, .slice none 0 0] 32)) W) => (show ((W.setCell ⟨w.heap.size + 1, 0, none⟩ x).setCell ⟨w.heap.size + 1, 1, none⟩ y).cell? ⟨bx, ox, none⟩ = some (.int .i64 5) ∧ ((W.setCell ⟨w.heap.size + 1, 0, none⟩ x).setCell ⟨w.heap.size + 1, 1, none⟩ y).cell? ⟨bx, ox + 1, none⟩ = some (.slice (some ⟨bi, oi, none⟩) 2 cx) ∧ ((W.setCell ⟨w.heap.size + 1, 0, none⟩ x).setCell ⟨w.heap.size + 1, 1, none⟩ y).cell? ⟨bi, oi, none⟩ = some (.int .i64 kp) ∧ ((W.setCell ⟨w.heap.size + 1, 0, none⟩ x).setCell ⟨w.heap.size + 1, 1, none⟩ y).cell? ⟨bi, oi + 1, none⟩ = some (.slice ap np cp) ∧ ((W.setCell ⟨w.heap.size + 1, 0, none⟩ x).setCell ⟨w.heap.size + 1, 1, none⟩ y).cell? ⟨bi, oi + 2, none⟩ = some (.int .i64 kr) ∧ ((W.setCell ⟨w.heap.size + 1, 0, none⟩ x).setCell ⟨w.heap.size + 1, 1, none⟩ y).cell? ⟨bi, oi + 2 + 1, none⟩ = some (.slice ar nr cr) ∧ ((W.setCell ⟨w.heap.size + 1, 0, none⟩ x).setCell ⟨w.heap.size + 1, 1, none⟩ y).cell? ⟨w.heap.size, 0, none⟩ = some (.int .i64 12) from ⟨two_keepS (cell_keep ex0 h) (by omega) _ _, two_keepS (cell_keep ex1 h) (by omega) _ _, two_keepS (cell_keep ei0 h) (by omega) _ _, two_keepS (cell_keep ei1 h) (by omega) _ _, two_keepS (cell_keep ei2 h) (by omega) _ _, two_keepS (cell_keep ei3 h) (by omega) _ _, two_keepS (cell_keep z0 h) (by omega) _ _⟩))
  clear hat hus hlen hvl hs3 ht1 ht2 hget hcap hmx hty hkx hl0 hkp hkr
  have hw9 : IntKind.i64.wrap 1 = 1 := by decide
  have HR2 := hid (show resE 12 ty fr [.mk 5 [p, r]] = some r from by simp [resE, nth, knd, kd2, kids2])
  go_enter Tryd.func121, Tryd.ntmps121
  go_wp2_with fail
  generalize ((w.alloc (Obj.cells #[.int .i64 12, .string nm, .int .i64 num, .int .i64 k1, .slice a1 n1 c1, .int .i64 k2, .slice a2 n2 c2, .int .i64 lb, .slice a3 ts.length c3] 35)).alloc (Obj.cells #[.int .i64 0, .slice none 0 0] 32)) = Z at *
  have hzS : w.heap.size + 1 < Z.heap.size := by rw [HSZ.out]; omega
  refine regionL (s := 11) (S0 := (fun w' => w'.cell? ⟨bx, ox, none⟩ = some (.int .i64 5) ∧ w'.cell? ⟨bx, ox + 1, none⟩ = some (.slice (some ⟨bi, oi, none⟩) 2 cx) ∧ w'.cell? ⟨bi, oi, none⟩ = some (.int .i64 kp) ∧ w'.cell? ⟨bi, oi + 1, none⟩ = some (.slice ap np cp) ∧ w'.cell? ⟨bi, oi + 2, none⟩ = some (.int .i64 kr) ∧ w'.cell? ⟨bi, oi + 2 + 1, none⟩ = some (.slice ar nr cr) ∧ w'.cell? ⟨w.heap.size, 0, none⟩ = some (.int .i64 12))) (S1 := (fun _ => True)) (by kernel_rfl) (HS.out _ (below_drew Z)) (trivial) (fun hS0 => ?_)
  refine takeL0 (i := 0) (v := ?vd121) rfl rfl (by kernel_rfl) (by kernel_rfl) (by kernel_rfl) (by decide) (by kernel_rfl) (by kernel_rfl) (fun _ _ _ h => h) (Or.inl ⟨by rfl, ?hyd121⟩) (by assumption) ?_
  case hyd121 => (intro w hSw; (try dsimp only at hSw); go_simp; (try with_reducible rfl))
  try simp only [Act.put, List.setIfInBounds_toArray, List.set_cons_zero, List.set_cons_succ]
  refine takeL0 (i := 1) (v := ?vd122) rfl rfl (by kernel_rfl) (by kernel_rfl) (by kernel_rfl) (by decide) (by kernel_rfl) (by kernel_rfl) (fun _ _ _ h => h) (Or.inl ⟨by rfl, ?hyd122⟩) (by assumption) ?_
  case hyd122 => (intro w hSw; (try dsimp only at hSw); go_simp; (try with_reducible rfl))
  try simp only [Act.put, List.setIfInBounds_toArray, List.set_cons_zero, List.set_cons_succ]
  refine takeL0 (i := 2) (v := ?vd123) rfl rfl (by kernel_rfl) (by kernel_rfl) (by kernel_rfl) (by decide) (by kernel_rfl) (by kernel_rfl) (fun _ _ _ h => h) (Or.inl ⟨by rfl, ?hyd123⟩) (by assumption) ?_
  case hyd123 => (intro w hSw; (try dsimp only at hSw); go_simp; (try with_reducible rfl))
  try simp only [Act.put, List.setIfInBounds_toArray, List.set_cons_zero, List.set_cons_succ]
  refine takeL0 (i := 3) (v := ?vd124) rfl rfl (by kernel_rfl) (by kernel_rfl) (by kernel_rfl) (by decide) (by kernel_rfl) (by kernel_rfl) (fun _ _ _ h => h) (Or.inl ⟨by rfl, ?hyd124⟩) (by assumption) ?_
  case hyd124 => (intro w hSw; (try dsimp only at hSw); go_simp; (try with_reducible rfl))
  try simp only [Act.put, List.setIfInBounds_toArray, List.set_cons_zero, List.set_cons_succ]
  refine takeL0 (i := 4) (v := ?vd125) rfl rfl (by kernel_rfl) (by kernel_rfl) (by kernel_rfl) (by decide) (by kernel_rfl) (by kernel_rfl) (fun _ _ _ h => h) (Or.inl ⟨by rfl, ?hyd125⟩) (by assumption) ?_
  case hyd125 => (intro w hSw; (try dsimp only at hSw); go_simp; (try with_reducible rfl))
  try simp only [Act.put, List.setIfInBounds_toArray, List.set_cons_zero, List.set_cons_succ]
  refine takeL0 (i := 5) (v := ?vd126) rfl rfl (by kernel_rfl) (by kernel_rfl) (by kernel_rfl) (by decide) (by kernel_rfl) (by kernel_rfl) (fun _ _ _ h => h) (Or.inl ⟨by rfl, ?hyd126⟩) (by assumption) ?_
  case hyd126 => (intro w hSw; (try dsimp only at hSw); go_simp; (try with_reducible rfl))
  try simp only [Act.put, List.setIfInBounds_toArray, List.set_cons_zero, List.set_cons_succ]
  refine takeL0 (i := 6) (v := ?vd127) rfl rfl (by kernel_rfl) (by kernel_rfl) (by kernel_rfl) (by decide) (by kernel_rfl) (by kernel_rfl) (fun _ _ _ h => h) (Or.inl ⟨by rfl, ?hyd127⟩) (by assumption) ?_
  case hyd127 => (intro w hSw; (try dsimp only at hSw); go_simp; (try with_reducible rfl))
  try simp only [Act.put, List.setIfInBounds_toArray, List.set_cons_zero, List.set_cons_succ]
  refine takeL0 (i := 7) (v := ?vd128) rfl rfl (by kernel_rfl) (by kernel_rfl) (by kernel_rfl) (by decide) (by kernel_rfl) (by kernel_rfl) (fun _ _ _ h => h) (Or.inl ⟨by rfl, ?hyd128⟩) (by assumption) ?_
  case hyd128 => (intro w hSw; (try dsimp only at hSw); go_simp; (try with_reducible rfl))
  try simp only [Act.put, List.setIfInBounds_toArray, List.set_cons_zero, List.set_cons_succ]
  refine takeL0 (i := 8) (v := ?vd129) rfl rfl (by kernel_rfl) (by kernel_rfl) (by kernel_rfl) (by decide) (by kernel_rfl) (by kernel_rfl) (fun _ _ _ h => h) (Or.inl ⟨by rfl, ?hyd129⟩) (by assumption) ?_
  case hyd129 => (intro w hSw; (try dsimp only at hSw); go_simp; (try with_reducible rfl))
  try simp only [Act.put, List.setIfInBounds_toArray, List.set_cons_zero, List.set_cons_succ]
  refine readyL (rs := [9]) (by kernel_rfl) (by simp) ?_
  refine AllReadyL.cons rfl (fun K hK => ?_) AllReadyL.nil
  go_simp
  refine (l1Copy_any r _ _ _ (HKr.out _ (below_drew Z)) (shp_cnt8 HVr.out (by omega))).mono ?_
  rintro e y9 ⟨v6, f6, rfl, hat6, hf6, hy9⟩
  have hk9 : Below Z.heap.size Z y9 := below_trans (below_drew Z) hy9
  obtain ⟨k6, n6, a6, c6, rfl⟩ := hat6.agg
  refine hK.out _ _ ?_ (fun hS1 => ?_)
  · exact ⟨trivial, fun _ => HS.out _ hk9⟩
  clear hK K hS0
  try simp only [Act.put, List.setIfInBounds_toArray, List.set_cons_zero, List.set_cons_succ]
  refine readyL (rs := [10]) (by kernel_rfl) (by simp) ?_
  refine AllReadyL.cons rfl (fun K hK => ?_) AllReadyL.nil
  have qq := (hk9.block _ (lt_of_block HQ.out)).trans HQ.out
  have r0 : y9.cell? ⟨w.heap.size + 1, 0, none⟩ = some (.int .i64 0) := by rw [cell_of_block qq]; rfl
  have r1 : y9.cell? ⟨w.heap.size + 1, 1, none⟩ = some (.slice none 0 0) := by rw [cell_of_block qq]; rfl
  have rz := fun o => frozen_of_block (o := o) qq
  have rl := lt_of_block qq
  go_simp
  refine hK.out _ _ ?_ (fun hS2 => ?_)
  · exact ⟨trivial, fun _ => HSP.out y9 _ _ hk9⟩
  clear hK K hS1
  try simp only [Act.put, List.setIfInBounds_toArray, List.set_cons_zero, List.set_cons_succ]
  refine readyL (rs := [11]) (by kernel_rfl) (by simp) ?_
  refine AllReadyL.cons rfl (fun K hK => ?_) AllReadyL.nil
  go_simp
  refine hK.out _ _ ?_ (fun hS3 => ?_)
  · exact ⟨trivial, fun h => absurd (h.symm.trans (show _ = true by kernel_rfl)) (by decide)⟩
  clear hK K hS2
  try simp only [Act.put, List.setIfInBounds_toArray, List.set_cons_zero, List.set_cons_succ]
  refine doneL (by kernel_rfl) ?_ _
  have FIN := hid (MadeTO.stored (w := w) (P := w.heap.size + 1) (o := resE 12 ty fr [.mk 5 [p, r]]) (T := r) (fun x h => by rw [HR2.out] at h; cases h; rfl) (by rw [HR2.out] <;> rfl) hat6 (hf6.mono (below_drew Z).size) (by omega) (by omega) (below_trans HB.out hk9))
  clear HS HSP HB HQ
  go_wp2_with fail
  exact bodyPost_ret (v := .tuple #[.agg #[.int .i64 k6, .slice a6 n6 c6], .bool true]) (by simp [results, Tryd.results121, go_sem, r0, r1]) rfl (by first | exact FIN.out | (rw [HRES.out]; exact FIN.out))

theorem ex_any {k : Int} (h1 : 6 ≤ k) (h2 : k ≤ 14) (h13 : k ≠ 13) : ReX k := by
  have h : k = 6 ∨ k = 7 ∨ k = 8 ∨ k = 9 ∨ k = 10 ∨ k = 11 ∨ k = 12 ∨ k = 14 := by omega
  rcases h with rfl | rfl | rfl | rfl | rfl | rfl | rfl | rfl
  · intro nm num ty fr lb ts v fe us s fu w hat hus hlen hvl hty
    by_cases hkd : knd (nth us 0) = 4
    · exact ex_6y nm num ty fr lb ts v fe us s fu w hat hus hlen hvl hty hkd
    · exact ex_6n nm num ty fr lb ts v fe us s fu w hat hus hlen hvl hty hkd
  · exact ex_7
  · exact ex_8
  · exact ex_9
  · exact ex_10
  · intro nm num ty fr lb ts v fe us s fu w hat hus hlen hvl hty
    by_cases hkd : knd (nth us 0) = 5
    · exact ex_11y nm num ty fr lb ts v fe us s fu w hat hus hlen hvl hty hkd
    · exact ex_11n nm num ty fr lb ts v fe us s fu w hat hus hlen hvl hty hkd
  · intro nm num ty fr lb ts v fe us s fu w hat hus hlen hvl hty
    by_cases hkd : knd (nth us 0) = 5
    · exact ex_12y nm num ty fr lb ts v fe us s fu w hat hus hlen hvl hty hkd
    · exact ex_12n nm num ty fr lb ts v fe us s fu w hat hus hlen hvl hty hkd
  · exact ex_14
end Go.Proofs.YtffmpjcjmffdeaaDoor
