/- The specification's l3Result: sums, comparisons, pairs, ascriptions. -/
import Derived.Test.YtffmpjcjmffdeaaDoorQG24
namespace Go.Proofs.YtffmpjcjmffdeaaDoor
open Go.RowKit

set_option maxRecDepth 100000 in
set_option maxHeartbeats 4000000 in
theorem res_7 : ReC 7 := by
  intro nm num ty fr lb ts v fe us s fu w hat hus hlen hvl hty
  obtain ⟨k1, n1, a1, c1, k2, n2, a2, c2, a3, c3, f1, f2, f3, rfl, hnm, ht1, ht2, rfl, hs3⟩ := hat.parts
  have HB := hid (show Below w.heap.size w ((w.alloc (Obj.cells #[.int .i64 7, .string nm, .int .i64 num, .int .i64 k1, .slice a1 n1 c1, .int .i64 k2, .slice a2 n2 c2, .int .i64 lb, .slice a3 ts.length c3] 35)).alloc (Obj.cells #[.int .i64 0, .slice none 0 0] 32)) from ((Below.refl _ _).alloc (Nat.le_refl _) _).alloc (by simp) _)
  have HSZ := hid (show ((w.alloc (Obj.cells #[.int .i64 7, .string nm, .int .i64 num, .int .i64 k1, .slice a1 n1 c1, .int .i64 k2, .slice a2 n2 c2, .int .i64 lb, .slice a3 ts.length c3] 35)).alloc (Obj.cells #[.int .i64 0, .slice none 0 0] 32)).heap.size = w.heap.size + 1 + 1 by simp)
  have HQ := hid (two_out (Below.refl _ ((w.alloc (Obj.cells #[.int .i64 7, .string nm, .int .i64 num, .int .i64 k1, .slice a1 n1 c1, .int .i64 k2, .slice a2 n2 c2, .int .i64 lb, .slice a3 ts.length c3] 35)).alloc (Obj.cells #[.int .i64 0, .slice none 0 0] 32)))).2
  obtain ⟨z0, z1, z2, z3, z4, z5, z6, z7, z8⟩ := cells9 (two_out (Below.refl _ ((w.alloc (Obj.cells #[.int .i64 7, .string nm, .int .i64 num, .int .i64 k1, .slice a1 n1 c1, .int .i64 k2, .slice a2 n2 c2, .int .i64 lb, .slice a3 ts.length c3] 35)).alloc (Obj.cells #[.int .i64 0, .slice none 0 0] 32)))).1
  obtain ⟨u, u2, rfl⟩ : ∃ a b, us = [a, b] := by
    have hl0 : us.length = 2 := by have : kidsM 7 = 2 := (by decide); omega
    match us, hl0 with
    | [a, b], _ => exact ⟨a, b, rfl⟩
  obtain ⟨sa, sc, hss, hcap, hmx, hget⟩ := hus.openA
  subst hss
  obtain ⟨bx, ox, kx, nx, ax, cx, gx, hpx, hltx, ex0, ex1, hkx, -⟩ := hget 0 (by simp)
  obtain ⟨bj, oj, kj, nj, aj, cj, gj, hpj, hltj, ej0, ej1, hkj, -⟩ := hget 1 (by simp)
  rw [hpx] at hpj
  simp only [Option.some.injEq, Addr.mk.injEq, and_true] at hpj
  obtain ⟨rfl, rfl⟩ := hpj
  subst hpx
  simp (config := { failIfUnchanged := false }) only [Nat.zero_mul, Nat.add_zero, Nat.one_mul, List.getElem_cons_zero, List.getElem_cons_succ] at ex0 ex1 hkx ej0 ej1 hkj
  replace ex0 := cell_keep ex0 HB.out
  replace ex1 := cell_keep ex1 HB.out
  have HVx := hid (hvl u (by simp))
  have HKx := hid (fun (W : World) (h : Below ((w.alloc (Obj.cells #[.int .i64 7, .string nm, .int .i64 num, .int .i64 k1, .slice a1 n1 c1, .int .i64 k2, .slice a2 n2 c2, .int .i64 lb, .slice a3 ts.length c3] 35)).alloc (Obj.cells #[.int .i64 0, .slice none 0 0] 32)).heap.size ((w.alloc (Obj.cells #[.int .i64 7, .string nm, .int .i64 num, .int .i64 k1, .slice a1 n1 c1, .int .i64 k2, .slice a2 n2 c2, .int .i64 lb, .slice a3 ts.length c3] 35)).alloc (Obj.cells #[.int .i64 0, .slice none 0 0] 32)) W) => hkx.below (below_trans HB.out h))
  replace ej0 := cell_keep ej0 HB.out
  replace ej1 := cell_keep ej1 HB.out
  have HVj := hid (hvl u2 (by simp))
  have HKj := hid (fun (W : World) (h : Below ((w.alloc (Obj.cells #[.int .i64 7, .string nm, .int .i64 num, .int .i64 k1, .slice a1 n1 c1, .int .i64 k2, .slice a2 n2 c2, .int .i64 lb, .slice a3 ts.length c3] 35)).alloc (Obj.cells #[.int .i64 0, .slice none 0 0] 32)).heap.size ((w.alloc (Obj.cells #[.int .i64 7, .string nm, .int .i64 num, .int .i64 k1, .slice a1 n1 c1, .int .i64 k2, .slice a2 n2 c2, .int .i64 lb, .slice a3 ts.length c3] 35)).alloc (Obj.cells #[.int .i64 0, .slice none 0 0] 32)) W) => hkj.below (below_trans HB.out h))
  have HT1 := hid (fun (W : World) (h : Below ((w.alloc (Obj.cells #[.int .i64 7, .string nm, .int .i64 num, .int .i64 k1, .slice a1 n1 c1, .int .i64 k2, .slice a2 n2 c2, .int .i64 lb, .slice a3 ts.length c3] 35)).alloc (Obj.cells #[.int .i64 0, .slice none 0 0] 32)).heap.size ((w.alloc (Obj.cells #[.int .i64 7, .string nm, .int .i64 num, .int .i64 k1, .slice a1 n1 c1, .int .i64 k2, .slice a2 n2 c2, .int .i64 lb, .slice a3 ts.length c3] 35)).alloc (Obj.cells #[.int .i64 0, .slice none 0 0] 32)) W) => ht1.below (below_trans HB.out h))
  have HTY := hid hty
  have HS := hid (fun (W : World) (h : Below ((w.alloc (Obj.cells #[.int .i64 7, .string nm, .int .i64 num, .int .i64 k1, .slice a1 n1 c1, .int .i64 k2, .slice a2 n2 c2, .int .i64 lb, .slice a3 ts.length c3] 35)).alloc (Obj.cells #[.int .i64 0, .slice none 0 0] 32)).heap.size ((w.alloc (Obj.cells #[.int .i64 7, .string nm, .int .i64 num, .int .i64 k1, .slice a1 n1 c1, .int .i64 k2, .slice a2 n2 c2, .int .i64 lb, .slice a3 ts.length c3] 35)).alloc (Obj.cells #[.int .i64 0, .slice none 0 0] 32)) W) => (show W.cell? ⟨bx, ox, none⟩ = some (.int .i64 kx) ∧ W.cell? ⟨bx, ox + 1, none⟩ = some (.slice ax nx cx) ∧ W.cell? ⟨bx, ox + 2, none⟩ = some (.int .i64 kj) ∧ W.cell? ⟨bx, ox + 2 + 1, none⟩ = some (.slice aj nj cj) from ⟨cell_keep ex0 h, cell_keep ex1 h, cell_keep ej0 h, cell_keep ej1 h⟩))
  have HSP := hid (fun (W : World) (x y : Value) (h : Below ((w.alloc (Obj.cells #[.int .i64 7, .string nm, .int .i64 num, .int .i64 k1, .slice a1 n1 c1, .int .i64 k2, .slice a2 n2 c2, .int .i64 lb, .slice a3 ts.length c3] 35)).alloc (Obj.cells #[.int .i64 0, .slice none 0 0] 32)).heap.size ((w.alloc (Obj.cells #[.int .i64 7, .string nm, .int .i64 num, .int .i64 k1, .slice a1 n1 c1, .int .i64 k2, .slice a2 n2 c2, .int .i64 lb, .slice a3 ts.length c3] 35)).alloc (Obj.cells #[.int .i64 0, .slice none 0 0] 32)) W) => (show ((W.setCell ⟨w.heap.size + 1, 0, none⟩ x).setCell ⟨w.heap.size + 1, 1, none⟩ y).cell? ⟨bx, ox, none⟩ = some (.int .i64 kx) ∧ ((W.setCell ⟨w.heap.size + 1, 0, none⟩ x).setCell ⟨w.heap.size + 1, 1, none⟩ y).cell? ⟨bx, ox + 1, none⟩ = some (.slice ax nx cx) ∧ ((W.setCell ⟨w.heap.size + 1, 0, none⟩ x).setCell ⟨w.heap.size + 1, 1, none⟩ y).cell? ⟨bx, ox + 2, none⟩ = some (.int .i64 kj) ∧ ((W.setCell ⟨w.heap.size + 1, 0, none⟩ x).setCell ⟨w.heap.size + 1, 1, none⟩ y).cell? ⟨bx, ox + 2 + 1, none⟩ = some (.slice aj nj cj) from ⟨two_keepS (cell_keep ex0 h) (by omega) _ _, two_keepS (cell_keep ex1 h) (by omega) _ _, two_keepS (cell_keep ej0 h) (by omega) _ _, two_keepS (cell_keep ej1 h) (by omega) _ _⟩))
  clear hat hus hlen hvl hs3 ht1 ht2 hget hcap hmx hty hkx hkj
  have HR1 := hid (show cons u tI = false → resM 7 ty [u, u2] = none from fun h => by simp [resM, nth, h])
  have HR2 := hid (show cons u tI = true → resM 7 ty [u, u2] = if cons u2 tI = true then some tI else none from fun h => by simp [resM, nth, h])
  go_enter Tryd.func115, Tryd.ntmps115
  go_wp2_with fail
  generalize ((w.alloc (Obj.cells #[.int .i64 7, .string nm, .int .i64 num, .int .i64 k1, .slice a1 n1 c1, .int .i64 k2, .slice a2 n2 c2, .int .i64 lb, .slice a3 ts.length c3] 35)).alloc (Obj.cells #[.int .i64 0, .slice none 0 0] 32)) = Z at *
  have hzS : w.heap.size + 1 < Z.heap.size := by rw [HSZ.out]; omega
  cases hc1 : cons u tI with
  | false =>
    have HC1 := hid hc1
    have HN := hid (HR1.out hc1)
    clear hc1 HR1 HR2
    refine regionL (s := 14) (S0 := (fun w' => w'.cell? ⟨bx, ox, none⟩ = some (.int .i64 kx) ∧ w'.cell? ⟨bx, ox + 1, none⟩ = some (.slice ax nx cx) ∧ w'.cell? ⟨bx, ox + 2, none⟩ = some (.int .i64 kj) ∧ w'.cell? ⟨bx, ox + 2 + 1, none⟩ = some (.slice aj nj cj))) (S1 := (fun _ => True)) (by kernel_rfl) (HS.out _ (below_drew Z)) (trivial) (fun hS0 => ?_)
    refine takeL0 (i := 1) (v := ?va71) rfl rfl (by kernel_rfl) (by kernel_rfl) (by kernel_rfl) (by decide) (by kernel_rfl) (by kernel_rfl) (fun _ _ _ h => h) (Or.inl ⟨by rfl, ?hya71⟩) (by assumption) ?_
    case hya71 => (intro w hSw; (try dsimp only at hSw); go_simp; (try with_reducible rfl))
    try simp only [Act.put, List.setIfInBounds_toArray, List.set_cons_zero, List.set_cons_succ]
    refine takeL0 (i := 2) (v := ?va72) rfl rfl (by kernel_rfl) (by kernel_rfl) (by kernel_rfl) (by decide) (by kernel_rfl) (by kernel_rfl) (fun _ _ _ h => h) (Or.inl ⟨by rfl, ?hya72⟩) (by assumption) ?_
    case hya72 => (intro w hSw; (try dsimp only at hSw); go_simp; (try with_reducible rfl))
    try simp only [Act.put, List.setIfInBounds_toArray, List.set_cons_zero, List.set_cons_succ]
    refine takeL0 (i := 3) (v := ?va73) rfl rfl (by kernel_rfl) (by kernel_rfl) (by kernel_rfl) (by decide) (by kernel_rfl) (by kernel_rfl) (fun _ _ _ h => h) (Or.inl ⟨by rfl, ?hya73⟩) (by assumption) ?_
    case hya73 => (intro w hSw; (try dsimp only at hSw); go_simp; (try with_reducible rfl))
    try simp only [Act.put, List.setIfInBounds_toArray, List.set_cons_zero, List.set_cons_succ]
    refine readyL (rs := [0]) (by kernel_rfl) (by simp) ?_
    refine AllReadyL.cons rfl (fun K hK => ?_) AllReadyL.nil
    go_simp
    refine (l3Int_any _).mono ?_
    rintro e y0 ⟨rfl, hy0⟩
    have hk0 : Below Z.heap.size Z y0 := below_trans (below_drew Z) hy0
    refine hK.out _ _ ?_ (fun hS1 => ?_)
    · exact ⟨trivial, fun _ => HS.out _ hk0⟩
    clear hK K hS0
    try simp only [Act.put, List.setIfInBounds_toArray, List.set_cons_zero, List.set_cons_succ]
    refine readyL (rs := [4]) (by kernel_rfl) (by simp) ?_
    refine AllReadyL.cons rfl (fun K hK => ?_) AllReadyL.nil
    go_simp
    refine (l3Int_any _).mono ?_
    rintro e y4 ⟨rfl, hy4⟩
    have hk4 : Below Z.heap.size Z y4 := below_trans hk0 hy4
    refine hK.out _ _ ?_ (fun hS2 => ?_)
    · exact ⟨trivial, fun _ => HS.out _ hk4⟩
    clear hK K hS1
    try simp only [Act.put, List.setIfInBounds_toArray, List.set_cons_zero, List.set_cons_succ]
    refine readyL (rs := [5]) (by kernel_rfl) (by simp) ?_
    refine AllReadyL.cons rfl (fun K hK => ?_) AllReadyL.nil
    go_simp
    refine (l1Consistent_any u tI _ _ _ _ _ (HKx.out _ hk4) (leaf_ty _ 2) (wf_of_vld HVx.out) (wf_of_vld vld_I)).mono ?_
    rintro e y5 ⟨he, hy5⟩
    have hk5 : Below Z.heap.size Z y5 := below_trans hk4 hy5
    rw [HC1.out] at he
    subst he
    refine hK.out _ _ ?_ (fun hS3 => ?_)
    · exact ⟨trivial, fun _ => HS.out _ hk5⟩
    clear hK K hS2
    try simp only [Act.put, List.setIfInBounds_toArray, List.set_cons_zero, List.set_cons_succ]
    refine takeL0 (i := 6) (v := ?va74) rfl rfl (by kernel_rfl) (by kernel_rfl) (by kernel_rfl) (by decide) (by kernel_rfl) (by kernel_rfl) (fun _ _ _ h => h) (Or.inl ⟨by rfl, ?hya74⟩) (by assumption) ?_
    case hya74 => (intro w hSw; (try dsimp only at hSw); go_simp; (try with_reducible rfl))
    try simp only [Act.put, List.setIfInBounds_toArray, List.set_cons_zero, List.set_cons_succ]
    refine takeL0 (i := 7) (v := undef) rfl rfl (by kernel_rfl) (by kernel_rfl) (by kernel_rfl) (by decide) (by kernel_rfl) (by kernel_rfl) (fun _ _ _ h => h) (Or.inr ⟨by rfl, rfl⟩) (by assumption) ?_
    try simp only [Act.put, List.setIfInBounds_toArray, List.set_cons_zero, List.set_cons_succ]
    refine takeL0 (i := 8) (v := undef) rfl rfl (by kernel_rfl) (by kernel_rfl) (by kernel_rfl) (by decide) (by kernel_rfl) (by kernel_rfl) (fun _ _ _ h => h) (Or.inr ⟨by rfl, rfl⟩) (by assumption) ?_
    try simp only [Act.put, List.setIfInBounds_toArray, List.set_cons_zero, List.set_cons_succ]
    refine takeL0 (i := 9) (v := undef) rfl rfl (by kernel_rfl) (by kernel_rfl) (by kernel_rfl) (by decide) (by kernel_rfl) (by kernel_rfl) (fun _ _ _ h => h) (Or.inr ⟨by rfl, rfl⟩) (by assumption) ?_
    try simp only [Act.put, List.setIfInBounds_toArray, List.set_cons_zero, List.set_cons_succ]
    refine takeL0 (i := 10) (v := undef) rfl rfl (by kernel_rfl) (by kernel_rfl) (by kernel_rfl) (by decide) (by kernel_rfl) (by kernel_rfl) (fun _ _ _ h => h) (Or.inr ⟨by rfl, rfl⟩) (by assumption) ?_
    try simp only [Act.put, List.setIfInBounds_toArray, List.set_cons_zero, List.set_cons_succ]
    refine takeL0 (i := 11) (v := undef) rfl rfl (by kernel_rfl) (by kernel_rfl) (by kernel_rfl) (by decide) (by kernel_rfl) (by kernel_rfl) (fun _ _ _ h => h) (Or.inr ⟨by rfl, rfl⟩) (by assumption) ?_
    try simp only [Act.put, List.setIfInBounds_toArray, List.set_cons_zero, List.set_cons_succ]
    refine takeL0 (i := 12) (v := ?va710) rfl rfl (by kernel_rfl) (by kernel_rfl) (by kernel_rfl) (by decide) (by kernel_rfl) (by kernel_rfl) (fun _ _ _ h => h) (Or.inl ⟨by rfl, ?hya710⟩) (by assumption) ?_
    case hya710 => (intro w hSw; (try dsimp only at hSw); go_simp; (try with_reducible rfl))
    try simp only [Act.put, List.setIfInBounds_toArray, List.set_cons_zero, List.set_cons_succ]
    refine readyL (rs := [13]) (by kernel_rfl) (by simp) ?_
    refine AllReadyL.cons rfl (fun K hK => ?_) AllReadyL.nil
    have qq := (hk5.block _ (lt_of_block HQ.out)).trans HQ.out
    have r0 : y5.cell? ⟨w.heap.size + 1, 0, none⟩ = some (.int .i64 0) := by rw [cell_of_block qq]; rfl
    have r1 : y5.cell? ⟨w.heap.size + 1, 1, none⟩ = some (.slice none 0 0) := by rw [cell_of_block qq]; rfl
    have rz := fun o => frozen_of_block (o := o) qq
    have rl := lt_of_block qq
    go_simp
    refine hK.out _ _ ?_ (fun hS4 => ?_)
    · exact ⟨trivial, fun _ => HSP.out y5 _ _ hk5⟩
    clear hK K hS3
    try simp only [Act.put, List.setIfInBounds_toArray, List.set_cons_zero, List.set_cons_succ]
    refine readyL (rs := [14]) (by kernel_rfl) (by simp) ?_
    refine AllReadyL.cons rfl (fun K hK => ?_) AllReadyL.nil
    go_simp
    refine hK.out _ _ ?_ (fun hS5 => ?_)
    · exact ⟨trivial, fun h => absurd (h.symm.trans (show _ = true by kernel_rfl)) (by decide)⟩
    clear hK K hS4
    try simp only [Act.put, List.setIfInBounds_toArray, List.set_cons_zero, List.set_cons_succ]
    refine doneL (by kernel_rfl) ?_ _
    have FIN := hid (MadeTO.stored (w := w) (P := w.heap.size + 1) (o := resM 7 ty [u, u2]) (T := tI) (fun u h => by rw [HN.out] at h; cases h) (by rw [HN.out] <;> rfl) (leaf_ty _ 2) (Fresh.nil _ _) (by omega) (by omega) (below_trans HB.out hk5))
    clear HS HSP HB HQ
    go_wp2_with fail
    exact bodyPost_ret (v := .tuple #[.agg #[.int .i64 2, .slice none 0 0], .bool false]) (by simp [results, Tryd.results115, go_sem, r0, r1]) rfl (by first | exact FIN.out | (rw [HRES.out]; exact FIN.out))
  | true =>
    have HC1 := hid hc1
    have HN := hid (HR2.out hc1)
    clear hc1 HR1 HR2
    cases hc2 : cons u2 tI with
    | false =>
      have HC2 := hid hc2
      rw [hc2] at HN
      clear hc2
      refine regionL (s := 14) (S0 := (fun w' => w'.cell? ⟨bx, ox, none⟩ = some (.int .i64 kx) ∧ w'.cell? ⟨bx, ox + 1, none⟩ = some (.slice ax nx cx) ∧ w'.cell? ⟨bx, ox + 2, none⟩ = some (.int .i64 kj) ∧ w'.cell? ⟨bx, ox + 2 + 1, none⟩ = some (.slice aj nj cj))) (S1 := (fun _ => True)) (by kernel_rfl) (HS.out _ (below_drew Z)) (trivial) (fun hS0 => ?_)
      refine takeL0 (i := 1) (v := ?vb71) rfl rfl (by kernel_rfl) (by kernel_rfl) (by kernel_rfl) (by decide) (by kernel_rfl) (by kernel_rfl) (fun _ _ _ h => h) (Or.inl ⟨by rfl, ?hyb71⟩) (by assumption) ?_
      case hyb71 => (intro w hSw; (try dsimp only at hSw); go_simp; (try with_reducible rfl))
      try simp only [Act.put, List.setIfInBounds_toArray, List.set_cons_zero, List.set_cons_succ]
      refine takeL0 (i := 2) (v := ?vb72) rfl rfl (by kernel_rfl) (by kernel_rfl) (by kernel_rfl) (by decide) (by kernel_rfl) (by kernel_rfl) (fun _ _ _ h => h) (Or.inl ⟨by rfl, ?hyb72⟩) (by assumption) ?_
      case hyb72 => (intro w hSw; (try dsimp only at hSw); go_simp; (try with_reducible rfl))
      try simp only [Act.put, List.setIfInBounds_toArray, List.set_cons_zero, List.set_cons_succ]
      refine takeL0 (i := 3) (v := ?vb73) rfl rfl (by kernel_rfl) (by kernel_rfl) (by kernel_rfl) (by decide) (by kernel_rfl) (by kernel_rfl) (fun _ _ _ h => h) (Or.inl ⟨by rfl, ?hyb73⟩) (by assumption) ?_
      case hyb73 => (intro w hSw; (try dsimp only at hSw); go_simp; (try with_reducible rfl))
      try simp only [Act.put, List.setIfInBounds_toArray, List.set_cons_zero, List.set_cons_succ]
      refine readyL (rs := [0]) (by kernel_rfl) (by simp) ?_
      refine AllReadyL.cons rfl (fun K hK => ?_) AllReadyL.nil
      go_simp
      refine (l3Int_any _).mono ?_
      rintro e y0 ⟨rfl, hy0⟩
      have hk0 : Below Z.heap.size Z y0 := below_trans (below_drew Z) hy0
      refine hK.out _ _ ?_ (fun hS1 => ?_)
      · exact ⟨trivial, fun _ => HS.out _ hk0⟩
      clear hK K hS0
      try simp only [Act.put, List.setIfInBounds_toArray, List.set_cons_zero, List.set_cons_succ]
      refine readyL (rs := [4]) (by kernel_rfl) (by simp) ?_
      refine AllReadyL.cons rfl (fun K hK => ?_) AllReadyL.nil
      go_simp
      refine (l3Int_any _).mono ?_
      rintro e y4 ⟨rfl, hy4⟩
      have hk4 : Below Z.heap.size Z y4 := below_trans hk0 hy4
      refine hK.out _ _ ?_ (fun hS2 => ?_)
      · exact ⟨trivial, fun _ => HS.out _ hk4⟩
      clear hK K hS1
      try simp only [Act.put, List.setIfInBounds_toArray, List.set_cons_zero, List.set_cons_succ]
      refine readyL (rs := [5]) (by kernel_rfl) (by simp) ?_
      refine AllReadyL.cons rfl (fun K hK => ?_) AllReadyL.nil
      go_simp
      refine (l1Consistent_any u tI _ _ _ _ _ (HKx.out _ hk4) (leaf_ty _ 2) (wf_of_vld HVx.out) (wf_of_vld vld_I)).mono ?_
      rintro e y5 ⟨he, hy5⟩
      have hk5 : Below Z.heap.size Z y5 := below_trans hk4 hy5
      rw [HC1.out] at he
      subst he
      refine hK.out _ _ ?_ (fun hS3 => ?_)
      · exact ⟨trivial, fun _ => HS.out _ hk5⟩
      clear hK K hS2
      try simp only [Act.put, List.setIfInBounds_toArray, List.set_cons_zero, List.set_cons_succ]
      refine takeL0 (i := 6) (v := ?vb74) rfl rfl (by kernel_rfl) (by kernel_rfl) (by kernel_rfl) (by decide) (by kernel_rfl) (by kernel_rfl) (fun _ _ _ h => h) (Or.inl ⟨by rfl, ?hyb74⟩) (by assumption) ?_
      case hyb74 => (intro w hSw; (try dsimp only at hSw); go_simp; (try with_reducible rfl))
      try simp only [Act.put, List.setIfInBounds_toArray, List.set_cons_zero, List.set_cons_succ]
      refine takeL0 (i := 7) (v := ?vb75) rfl rfl (by kernel_rfl) (by kernel_rfl) (by kernel_rfl) (by decide) (by kernel_rfl) (by kernel_rfl) (fun _ _ _ h => h) (Or.inl ⟨by rfl, ?hyb75⟩) (by assumption) ?_
      case hyb75 => (intro w hSw; (try dsimp only at hSw); go_simp; (try with_reducible rfl))
      try simp only [Act.put, List.setIfInBounds_toArray, List.set_cons_zero, List.set_cons_succ]
      refine takeL0 (i := 8) (v := ?vb76) rfl rfl (by kernel_rfl) (by kernel_rfl) (by kernel_rfl) (by decide) (by kernel_rfl) (by kernel_rfl) (fun _ _ _ h => h) (Or.inl ⟨by rfl, ?hyb76⟩) (by assumption) ?_
      case hyb76 => (intro w hSw; (try dsimp only at hSw); go_simp; (try with_reducible rfl))
      try simp only [Act.put, List.setIfInBounds_toArray, List.set_cons_zero, List.set_cons_succ]
      refine takeL0 (i := 9) (v := ?vb77) rfl rfl (by kernel_rfl) (by kernel_rfl) (by kernel_rfl) (by decide) (by kernel_rfl) (by kernel_rfl) (fun _ _ _ h => h) (Or.inl ⟨by rfl, ?hyb77⟩) (by assumption) ?_
      case hyb77 => (intro w hSw; (try dsimp only at hSw); go_simp; (try with_reducible rfl))
      try simp only [Act.put, List.setIfInBounds_toArray, List.set_cons_zero, List.set_cons_succ]
      refine readyL (rs := [10]) (by kernel_rfl) (by simp) ?_
      refine AllReadyL.cons rfl (fun K hK => ?_) AllReadyL.nil
      go_simp
      refine (l3Int_any _).mono ?_
      rintro e y10 ⟨rfl, hy10⟩
      have hk10 : Below Z.heap.size Z y10 := below_trans hk5 hy10
      refine hK.out _ _ ?_ (fun hS4 => ?_)
      · exact ⟨trivial, fun _ => HS.out _ hk10⟩
      clear hK K hS3
      try simp only [Act.put, List.setIfInBounds_toArray, List.set_cons_zero, List.set_cons_succ]
      refine readyL (rs := [11]) (by kernel_rfl) (by simp) ?_
      refine AllReadyL.cons rfl (fun K hK => ?_) AllReadyL.nil
      go_simp
      refine (l1Consistent_any u2 tI _ _ _ _ _ (HKj.out _ hk10) (leaf_ty _ 2) (wf_of_vld HVj.out) (wf_of_vld vld_I)).mono ?_
      rintro e y11 ⟨he, hy11⟩
      have hk11 : Below Z.heap.size Z y11 := below_trans hk10 hy11
      rw [HC2.out] at he
      subst he
      refine hK.out _ _ ?_ (fun hS5 => ?_)
      · exact ⟨trivial, fun _ => HS.out _ hk11⟩
      clear hK K hS4
      try simp only [Act.put, List.setIfInBounds_toArray, List.set_cons_zero, List.set_cons_succ]
      refine takeL0 (i := 12) (v := ?vb78) rfl rfl (by kernel_rfl) (by kernel_rfl) (by kernel_rfl) (by decide) (by kernel_rfl) (by kernel_rfl) (fun _ _ _ h => h) (Or.inl ⟨by rfl, ?hyb78⟩) (by assumption) ?_
      case hyb78 => (intro w hSw; (try dsimp only at hSw); go_simp; (try with_reducible rfl))
      try simp only [Act.put, List.setIfInBounds_toArray, List.set_cons_zero, List.set_cons_succ]
      refine readyL (rs := [13]) (by kernel_rfl) (by simp) ?_
      refine AllReadyL.cons rfl (fun K hK => ?_) AllReadyL.nil
      have qq := (hk11.block _ (lt_of_block HQ.out)).trans HQ.out
      have r0 : y11.cell? ⟨w.heap.size + 1, 0, none⟩ = some (.int .i64 0) := by rw [cell_of_block qq]; rfl
      have r1 : y11.cell? ⟨w.heap.size + 1, 1, none⟩ = some (.slice none 0 0) := by rw [cell_of_block qq]; rfl
      have rz := fun o => frozen_of_block (o := o) qq
      have rl := lt_of_block qq
      go_simp
      refine hK.out _ _ ?_ (fun hS6 => ?_)
      · exact ⟨trivial, fun _ => HSP.out y11 _ _ hk11⟩
      clear hK K hS5
      try simp only [Act.put, List.setIfInBounds_toArray, List.set_cons_zero, List.set_cons_succ]
      refine readyL (rs := [14]) (by kernel_rfl) (by simp) ?_
      refine AllReadyL.cons rfl (fun K hK => ?_) AllReadyL.nil
      go_simp
      refine hK.out _ _ ?_ (fun hS7 => ?_)
      · exact ⟨trivial, fun h => absurd (h.symm.trans (show _ = true by kernel_rfl)) (by decide)⟩
      clear hK K hS6
      try simp only [Act.put, List.setIfInBounds_toArray, List.set_cons_zero, List.set_cons_succ]
      refine doneL (by kernel_rfl) ?_ _
      have FIN := hid (MadeTO.stored (w := w) (P := w.heap.size + 1) (o := resM 7 ty [u, u2]) (T := tI) (fun u h => by rw [HN.out] at h; cases h) (by rw [HN.out] <;> rfl) (leaf_ty _ 2) (Fresh.nil _ _) (by omega) (by omega) (below_trans HB.out hk11))
      clear HS HSP HB HQ
      go_wp2_with fail
      exact bodyPost_ret (v := .tuple #[.agg #[.int .i64 2, .slice none 0 0], .bool false]) (by simp [results, Tryd.results115, go_sem, r0, r1]) rfl (by first | exact FIN.out | (rw [HRES.out]; exact FIN.out))
    | true =>
      have HC2 := hid hc2
      rw [hc2] at HN
      clear hc2
      refine regionL (s := 14) (S0 := (fun w' => w'.cell? ⟨bx, ox, none⟩ = some (.int .i64 kx) ∧ w'.cell? ⟨bx, ox + 1, none⟩ = some (.slice ax nx cx) ∧ w'.cell? ⟨bx, ox + 2, none⟩ = some (.int .i64 kj) ∧ w'.cell? ⟨bx, ox + 2 + 1, none⟩ = some (.slice aj nj cj))) (S1 := (fun _ => True)) (by kernel_rfl) (HS.out _ (below_drew Z)) (trivial) (fun hS0 => ?_)
      refine takeL0 (i := 1) (v := ?vc71) rfl rfl (by kernel_rfl) (by kernel_rfl) (by kernel_rfl) (by decide) (by kernel_rfl) (by kernel_rfl) (fun _ _ _ h => h) (Or.inl ⟨by rfl, ?hyc71⟩) (by assumption) ?_
      case hyc71 => (intro w hSw; (try dsimp only at hSw); go_simp; (try with_reducible rfl))
      try simp only [Act.put, List.setIfInBounds_toArray, List.set_cons_zero, List.set_cons_succ]
      refine takeL0 (i := 2) (v := ?vc72) rfl rfl (by kernel_rfl) (by kernel_rfl) (by kernel_rfl) (by decide) (by kernel_rfl) (by kernel_rfl) (fun _ _ _ h => h) (Or.inl ⟨by rfl, ?hyc72⟩) (by assumption) ?_
      case hyc72 => (intro w hSw; (try dsimp only at hSw); go_simp; (try with_reducible rfl))
      try simp only [Act.put, List.setIfInBounds_toArray, List.set_cons_zero, List.set_cons_succ]
      refine takeL0 (i := 3) (v := ?vc73) rfl rfl (by kernel_rfl) (by kernel_rfl) (by kernel_rfl) (by decide) (by kernel_rfl) (by kernel_rfl) (fun _ _ _ h => h) (Or.inl ⟨by rfl, ?hyc73⟩) (by assumption) ?_
      case hyc73 => (intro w hSw; (try dsimp only at hSw); go_simp; (try with_reducible rfl))
      try simp only [Act.put, List.setIfInBounds_toArray, List.set_cons_zero, List.set_cons_succ]
      refine readyL (rs := [0]) (by kernel_rfl) (by simp) ?_
      refine AllReadyL.cons rfl (fun K hK => ?_) AllReadyL.nil
      go_simp
      refine (l3Int_any _).mono ?_
      rintro e y0 ⟨rfl, hy0⟩
      have hk0 : Below Z.heap.size Z y0 := below_trans (below_drew Z) hy0
      refine hK.out _ _ ?_ (fun hS1 => ?_)
      · exact ⟨trivial, fun _ => HS.out _ hk0⟩
      clear hK K hS0
      try simp only [Act.put, List.setIfInBounds_toArray, List.set_cons_zero, List.set_cons_succ]
      refine readyL (rs := [4]) (by kernel_rfl) (by simp) ?_
      refine AllReadyL.cons rfl (fun K hK => ?_) AllReadyL.nil
      go_simp
      refine (l3Int_any _).mono ?_
      rintro e y4 ⟨rfl, hy4⟩
      have hk4 : Below Z.heap.size Z y4 := below_trans hk0 hy4
      refine hK.out _ _ ?_ (fun hS2 => ?_)
      · exact ⟨trivial, fun _ => HS.out _ hk4⟩
      clear hK K hS1
      try simp only [Act.put, List.setIfInBounds_toArray, List.set_cons_zero, List.set_cons_succ]
      refine readyL (rs := [5]) (by kernel_rfl) (by simp) ?_
      refine AllReadyL.cons rfl (fun K hK => ?_) AllReadyL.nil
      go_simp
      refine (l1Consistent_any u tI _ _ _ _ _ (HKx.out _ hk4) (leaf_ty _ 2) (wf_of_vld HVx.out) (wf_of_vld vld_I)).mono ?_
      rintro e y5 ⟨he, hy5⟩
      have hk5 : Below Z.heap.size Z y5 := below_trans hk4 hy5
      rw [HC1.out] at he
      subst he
      refine hK.out _ _ ?_ (fun hS3 => ?_)
      · exact ⟨trivial, fun _ => HS.out _ hk5⟩
      clear hK K hS2
      try simp only [Act.put, List.setIfInBounds_toArray, List.set_cons_zero, List.set_cons_succ]
      refine takeL0 (i := 6) (v := ?vc74) rfl rfl (by kernel_rfl) (by kernel_rfl) (by kernel_rfl) (by decide) (by kernel_rfl) (by kernel_rfl) (fun _ _ _ h => h) (Or.inl ⟨by rfl, ?hyc74⟩) (by assumption) ?_
      case hyc74 => (intro w hSw; (try dsimp only at hSw); go_simp; (try with_reducible rfl))
      try simp only [Act.put, List.setIfInBounds_toArray, List.set_cons_zero, List.set_cons_succ]
      refine takeL0 (i := 7) (v := ?vc75) rfl rfl (by kernel_rfl) (by kernel_rfl) (by kernel_rfl) (by decide) (by kernel_rfl) (by kernel_rfl) (fun _ _ _ h => h) (Or.inl ⟨by rfl, ?hyc75⟩) (by assumption) ?_
      case hyc75 => (intro w hSw; (try dsimp only at hSw); go_simp; (try with_reducible rfl))
      try simp only [Act.put, List.setIfInBounds_toArray, List.set_cons_zero, List.set_cons_succ]
      refine takeL0 (i := 8) (v := ?vc76) rfl rfl (by kernel_rfl) (by kernel_rfl) (by kernel_rfl) (by decide) (by kernel_rfl) (by kernel_rfl) (fun _ _ _ h => h) (Or.inl ⟨by rfl, ?hyc76⟩) (by assumption) ?_
      case hyc76 => (intro w hSw; (try dsimp only at hSw); go_simp; (try with_reducible rfl))
      try simp only [Act.put, List.setIfInBounds_toArray, List.set_cons_zero, List.set_cons_succ]
      refine takeL0 (i := 9) (v := ?vc77) rfl rfl (by kernel_rfl) (by kernel_rfl) (by kernel_rfl) (by decide) (by kernel_rfl) (by kernel_rfl) (fun _ _ _ h => h) (Or.inl ⟨by rfl, ?hyc77⟩) (by assumption) ?_
      case hyc77 => (intro w hSw; (try dsimp only at hSw); go_simp; (try with_reducible rfl))
      try simp only [Act.put, List.setIfInBounds_toArray, List.set_cons_zero, List.set_cons_succ]
      refine readyL (rs := [10]) (by kernel_rfl) (by simp) ?_
      refine AllReadyL.cons rfl (fun K hK => ?_) AllReadyL.nil
      go_simp
      refine (l3Int_any _).mono ?_
      rintro e y10 ⟨rfl, hy10⟩
      have hk10 : Below Z.heap.size Z y10 := below_trans hk5 hy10
      refine hK.out _ _ ?_ (fun hS4 => ?_)
      · exact ⟨trivial, fun _ => HS.out _ hk10⟩
      clear hK K hS3
      try simp only [Act.put, List.setIfInBounds_toArray, List.set_cons_zero, List.set_cons_succ]
      refine readyL (rs := [11]) (by kernel_rfl) (by simp) ?_
      refine AllReadyL.cons rfl (fun K hK => ?_) AllReadyL.nil
      go_simp
      refine (l1Consistent_any u2 tI _ _ _ _ _ (HKj.out _ hk10) (leaf_ty _ 2) (wf_of_vld HVj.out) (wf_of_vld vld_I)).mono ?_
      rintro e y11 ⟨he, hy11⟩
      have hk11 : Below Z.heap.size Z y11 := below_trans hk10 hy11
      rw [HC2.out] at he
      subst he
      refine hK.out _ _ ?_ (fun hS5 => ?_)
      · exact ⟨trivial, fun _ => HS.out _ hk11⟩
      clear hK K hS4
      try simp only [Act.put, List.setIfInBounds_toArray, List.set_cons_zero, List.set_cons_succ]
      refine takeL0 (i := 12) (v := ?vc78) rfl rfl (by kernel_rfl) (by kernel_rfl) (by kernel_rfl) (by decide) (by kernel_rfl) (by kernel_rfl) (fun _ _ _ h => h) (Or.inl ⟨by rfl, ?hyc78⟩) (by assumption) ?_
      case hyc78 => (intro w hSw; (try dsimp only at hSw); go_simp; (try with_reducible rfl))
      try simp only [Act.put, List.setIfInBounds_toArray, List.set_cons_zero, List.set_cons_succ]
      refine readyL (rs := [13]) (by kernel_rfl) (by simp) ?_
      refine AllReadyL.cons rfl (fun K hK => ?_) AllReadyL.nil
      have qq := (hk11.block _ (lt_of_block HQ.out)).trans HQ.out
      have r0 : y11.cell? ⟨w.heap.size + 1, 0, none⟩ = some (.int .i64 0) := by rw [cell_of_block qq]; rfl
      have r1 : y11.cell? ⟨w.heap.size + 1, 1, none⟩ = some (.slice none 0 0) := by rw [cell_of_block qq]; rfl
      have rz := fun o => frozen_of_block (o := o) qq
      have rl := lt_of_block qq
      go_simp
      refine hK.out _ _ ?_ (fun hS6 => ?_)
      · exact ⟨trivial, fun _ => HSP.out y11 _ _ hk11⟩
      clear hK K hS5
      try simp only [Act.put, List.setIfInBounds_toArray, List.set_cons_zero, List.set_cons_succ]
      refine readyL (rs := [14]) (by kernel_rfl) (by simp) ?_
      refine AllReadyL.cons rfl (fun K hK => ?_) AllReadyL.nil
      go_simp
      refine hK.out _ _ ?_ (fun hS7 => ?_)
      · exact ⟨trivial, fun h => absurd (h.symm.trans (show _ = true by kernel_rfl)) (by decide)⟩
      clear hK K hS6
      try simp only [Act.put, List.setIfInBounds_toArray, List.set_cons_zero, List.set_cons_succ]
      refine doneL (by kernel_rfl) ?_ _
      have FIN := hid (MadeTO.stored (w := w) (P := w.heap.size + 1) (o := resM 7 ty [u, u2]) (T := tI) (fun u h => by rw [HN.out] at h; cases h; rfl) (by rw [HN.out] <;> rfl) (leaf_ty _ 2) (Fresh.nil _ _) (by omega) (by omega) (below_trans HB.out hk11))
      clear HS HSP HB HQ
      go_wp2_with fail
      exact bodyPost_ret (v := .tuple #[.agg #[.int .i64 2, .slice none 0 0], .bool true]) (by simp [results, Tryd.results115, go_sem, r0, r1]) rfl (by first | exact FIN.out | (rw [HRES.out]; exact FIN.out))

set_option maxRecDepth 100000 in
set_option maxHeartbeats 4000000 in
theorem res_8 : ReC 8 := by
  intro nm num ty fr lb ts v fe us s fu w hat hus hlen hvl hty
  obtain ⟨k1, n1, a1, c1, k2, n2, a2, c2, a3, c3, f1, f2, f3, rfl, hnm, ht1, ht2, rfl, hs3⟩ := hat.parts
  have HB := hid (show Below w.heap.size w ((w.alloc (Obj.cells #[.int .i64 8, .string nm, .int .i64 num, .int .i64 k1, .slice a1 n1 c1, .int .i64 k2, .slice a2 n2 c2, .int .i64 lb, .slice a3 ts.length c3] 35)).alloc (Obj.cells #[.int .i64 0, .slice none 0 0] 32)) from ((Below.refl _ _).alloc (Nat.le_refl _) _).alloc (by simp) _)
  have HSZ := hid (show ((w.alloc (Obj.cells #[.int .i64 8, .string nm, .int .i64 num, .int .i64 k1, .slice a1 n1 c1, .int .i64 k2, .slice a2 n2 c2, .int .i64 lb, .slice a3 ts.length c3] 35)).alloc (Obj.cells #[.int .i64 0, .slice none 0 0] 32)).heap.size = w.heap.size + 1 + 1 by simp)
  have HQ := hid (two_out (Below.refl _ ((w.alloc (Obj.cells #[.int .i64 8, .string nm, .int .i64 num, .int .i64 k1, .slice a1 n1 c1, .int .i64 k2, .slice a2 n2 c2, .int .i64 lb, .slice a3 ts.length c3] 35)).alloc (Obj.cells #[.int .i64 0, .slice none 0 0] 32)))).2
  obtain ⟨z0, z1, z2, z3, z4, z5, z6, z7, z8⟩ := cells9 (two_out (Below.refl _ ((w.alloc (Obj.cells #[.int .i64 8, .string nm, .int .i64 num, .int .i64 k1, .slice a1 n1 c1, .int .i64 k2, .slice a2 n2 c2, .int .i64 lb, .slice a3 ts.length c3] 35)).alloc (Obj.cells #[.int .i64 0, .slice none 0 0] 32)))).1
  obtain ⟨u, u2, rfl⟩ : ∃ a b, us = [a, b] := by
    have hl0 : us.length = 2 := by have : kidsM 8 = 2 := (by decide); omega
    match us, hl0 with
    | [a, b], _ => exact ⟨a, b, rfl⟩
  obtain ⟨sa, sc, hss, hcap, hmx, hget⟩ := hus.openA
  subst hss
  obtain ⟨bx, ox, kx, nx, ax, cx, gx, hpx, hltx, ex0, ex1, hkx, -⟩ := hget 0 (by simp)
  obtain ⟨bj, oj, kj, nj, aj, cj, gj, hpj, hltj, ej0, ej1, hkj, -⟩ := hget 1 (by simp)
  rw [hpx] at hpj
  simp only [Option.some.injEq, Addr.mk.injEq, and_true] at hpj
  obtain ⟨rfl, rfl⟩ := hpj
  subst hpx
  simp (config := { failIfUnchanged := false }) only [Nat.zero_mul, Nat.add_zero, Nat.one_mul, List.getElem_cons_zero, List.getElem_cons_succ] at ex0 ex1 hkx ej0 ej1 hkj
  replace ex0 := cell_keep ex0 HB.out
  replace ex1 := cell_keep ex1 HB.out
  have HVx := hid (hvl u (by simp))
  have HKx := hid (fun (W : World) (h : Below ((w.alloc (Obj.cells #[.int .i64 8, .string nm, .int .i64 num, .int .i64 k1, .slice a1 n1 c1, .int .i64 k2, .slice a2 n2 c2, .int .i64 lb, .slice a3 ts.length c3] 35)).alloc (Obj.cells #[.int .i64 0, .slice none 0 0] 32)).heap.size ((w.alloc (Obj.cells #[.int .i64 8, .string nm, .int .i64 num, .int .i64 k1, .slice a1 n1 c1, .int .i64 k2, .slice a2 n2 c2, .int .i64 lb, .slice a3 ts.length c3] 35)).alloc (Obj.cells #[.int .i64 0, .slice none 0 0] 32)) W) => hkx.below (below_trans HB.out h))
  replace ej0 := cell_keep ej0 HB.out
  replace ej1 := cell_keep ej1 HB.out
  have HVj := hid (hvl u2 (by simp))
  have HKj := hid (fun (W : World) (h : Below ((w.alloc (Obj.cells #[.int .i64 8, .string nm, .int .i64 num, .int .i64 k1, .slice a1 n1 c1, .int .i64 k2, .slice a2 n2 c2, .int .i64 lb, .slice a3 ts.length c3] 35)).alloc (Obj.cells #[.int .i64 0, .slice none 0 0] 32)).heap.size ((w.alloc (Obj.cells #[.int .i64 8, .string nm, .int .i64 num, .int .i64 k1, .slice a1 n1 c1, .int .i64 k2, .slice a2 n2 c2, .int .i64 lb, .slice a3 ts.length c3] 35)).alloc (Obj.cells #[.int .i64 0, .slice none 0 0] 32)) W) => hkj.below (below_trans HB.out h))
  have HT1 := hid (fun (W : World) (h : Below ((w.alloc (Obj.cells #[.int .i64 8, .string nm, .int .i64 num, .int .i64 k1, .slice a1 n1 c1, .int .i64 k2, .slice a2 n2 c2, .int .i64 lb, .slice a3 ts.length c3] 35)).alloc (Obj.cells #[.int .i64 0, .slice none 0 0] 32)).heap.size ((w.alloc (Obj.cells #[.int .i64 8, .string nm, .int .i64 num, .int .i64 k1, .slice a1 n1 c1, .int .i64 k2, .slice a2 n2 c2, .int .i64 lb, .slice a3 ts.length c3] 35)).alloc (Obj.cells #[.int .i64 0, .slice none 0 0] 32)) W) => ht1.below (below_trans HB.out h))
  have HTY := hid hty
  have HS := hid (fun (W : World) (h : Below ((w.alloc (Obj.cells #[.int .i64 8, .string nm, .int .i64 num, .int .i64 k1, .slice a1 n1 c1, .int .i64 k2, .slice a2 n2 c2, .int .i64 lb, .slice a3 ts.length c3] 35)).alloc (Obj.cells #[.int .i64 0, .slice none 0 0] 32)).heap.size ((w.alloc (Obj.cells #[.int .i64 8, .string nm, .int .i64 num, .int .i64 k1, .slice a1 n1 c1, .int .i64 k2, .slice a2 n2 c2, .int .i64 lb, .slice a3 ts.length c3] 35)).alloc (Obj.cells #[.int .i64 0, .slice none 0 0] 32)) W) => (show W.cell? ⟨bx, ox, none⟩ = some (.int .i64 kx) ∧ W.cell? ⟨bx, ox + 1, none⟩ = some (.slice ax nx cx) ∧ W.cell? ⟨bx, ox + 2, none⟩ = some (.int .i64 kj) ∧ W.cell? ⟨bx, ox + 2 + 1, none⟩ = some (.slice aj nj cj) from ⟨cell_keep ex0 h, cell_keep ex1 h, cell_keep ej0 h, cell_keep ej1 h⟩))
  have HSP := hid (fun (W : World) (x y : Value) (h : Below ((w.alloc (Obj.cells #[.int .i64 8, .string nm, .int .i64 num, .int .i64 k1, .slice a1 n1 c1, .int .i64 k2, .slice a2 n2 c2, .int .i64 lb, .slice a3 ts.length c3] 35)).alloc (Obj.cells #[.int .i64 0, .slice none 0 0] 32)).heap.size ((w.alloc (Obj.cells #[.int .i64 8, .string nm, .int .i64 num, .int .i64 k1, .slice a1 n1 c1, .int .i64 k2, .slice a2 n2 c2, .int .i64 lb, .slice a3 ts.length c3] 35)).alloc (Obj.cells #[.int .i64 0, .slice none 0 0] 32)) W) => (show ((W.setCell ⟨w.heap.size + 1, 0, none⟩ x).setCell ⟨w.heap.size + 1, 1, none⟩ y).cell? ⟨bx, ox, none⟩ = some (.int .i64 kx) ∧ ((W.setCell ⟨w.heap.size + 1, 0, none⟩ x).setCell ⟨w.heap.size + 1, 1, none⟩ y).cell? ⟨bx, ox + 1, none⟩ = some (.slice ax nx cx) ∧ ((W.setCell ⟨w.heap.size + 1, 0, none⟩ x).setCell ⟨w.heap.size + 1, 1, none⟩ y).cell? ⟨bx, ox + 2, none⟩ = some (.int .i64 kj) ∧ ((W.setCell ⟨w.heap.size + 1, 0, none⟩ x).setCell ⟨w.heap.size + 1, 1, none⟩ y).cell? ⟨bx, ox + 2 + 1, none⟩ = some (.slice aj nj cj) from ⟨two_keepS (cell_keep ex0 h) (by omega) _ _, two_keepS (cell_keep ex1 h) (by omega) _ _, two_keepS (cell_keep ej0 h) (by omega) _ _, two_keepS (cell_keep ej1 h) (by omega) _ _⟩))
  clear hat hus hlen hvl hs3 ht1 ht2 hget hcap hmx hty hkx hkj
  have HR1 := hid (show cons u tI = false → resM 8 ty [u, u2] = none from fun h => by simp [resM, nth, h])
  have HR2 := hid (show cons u tI = true → resM 8 ty [u, u2] = if cons u2 tI = true then some tB else none from fun h => by simp [resM, nth, h])
  go_enter Tryd.func115, Tryd.ntmps115
  go_wp2_with fail
  generalize ((w.alloc (Obj.cells #[.int .i64 8, .string nm, .int .i64 num, .int .i64 k1, .slice a1 n1 c1, .int .i64 k2, .slice a2 n2 c2, .int .i64 lb, .slice a3 ts.length c3] 35)).alloc (Obj.cells #[.int .i64 0, .slice none 0 0] 32)) = Z at *
  have hzS : w.heap.size + 1 < Z.heap.size := by rw [HSZ.out]; omega
  cases hc1 : cons u tI with
  | false =>
    have HC1 := hid hc1
    have HN := hid (HR1.out hc1)
    clear hc1 HR1 HR2
    refine regionL (s := 14) (S0 := (fun w' => w'.cell? ⟨bx, ox, none⟩ = some (.int .i64 kx) ∧ w'.cell? ⟨bx, ox + 1, none⟩ = some (.slice ax nx cx) ∧ w'.cell? ⟨bx, ox + 2, none⟩ = some (.int .i64 kj) ∧ w'.cell? ⟨bx, ox + 2 + 1, none⟩ = some (.slice aj nj cj))) (S1 := (fun _ => True)) (by kernel_rfl) (HS.out _ (below_drew Z)) (trivial) (fun hS0 => ?_)
    refine takeL0 (i := 1) (v := ?va81) rfl rfl (by kernel_rfl) (by kernel_rfl) (by kernel_rfl) (by decide) (by kernel_rfl) (by kernel_rfl) (fun _ _ _ h => h) (Or.inl ⟨by rfl, ?hya81⟩) (by assumption) ?_
    case hya81 => (intro w hSw; (try dsimp only at hSw); go_simp; (try with_reducible rfl))
    try simp only [Act.put, List.setIfInBounds_toArray, List.set_cons_zero, List.set_cons_succ]
    refine takeL0 (i := 2) (v := ?va82) rfl rfl (by kernel_rfl) (by kernel_rfl) (by kernel_rfl) (by decide) (by kernel_rfl) (by kernel_rfl) (fun _ _ _ h => h) (Or.inl ⟨by rfl, ?hya82⟩) (by assumption) ?_
    case hya82 => (intro w hSw; (try dsimp only at hSw); go_simp; (try with_reducible rfl))
    try simp only [Act.put, List.setIfInBounds_toArray, List.set_cons_zero, List.set_cons_succ]
    refine takeL0 (i := 3) (v := ?va83) rfl rfl (by kernel_rfl) (by kernel_rfl) (by kernel_rfl) (by decide) (by kernel_rfl) (by kernel_rfl) (fun _ _ _ h => h) (Or.inl ⟨by rfl, ?hya83⟩) (by assumption) ?_
    case hya83 => (intro w hSw; (try dsimp only at hSw); go_simp; (try with_reducible rfl))
    try simp only [Act.put, List.setIfInBounds_toArray, List.set_cons_zero, List.set_cons_succ]
    refine readyL (rs := [0]) (by kernel_rfl) (by simp) ?_
    refine AllReadyL.cons rfl (fun K hK => ?_) AllReadyL.nil
    go_simp
    refine (l3Bool_any _).mono ?_
    rintro e y0 ⟨rfl, hy0⟩
    have hk0 : Below Z.heap.size Z y0 := below_trans (below_drew Z) hy0
    refine hK.out _ _ ?_ (fun hS1 => ?_)
    · exact ⟨trivial, fun _ => HS.out _ hk0⟩
    clear hK K hS0
    try simp only [Act.put, List.setIfInBounds_toArray, List.set_cons_zero, List.set_cons_succ]
    refine readyL (rs := [4]) (by kernel_rfl) (by simp) ?_
    refine AllReadyL.cons rfl (fun K hK => ?_) AllReadyL.nil
    go_simp
    refine (l3Int_any _).mono ?_
    rintro e y4 ⟨rfl, hy4⟩
    have hk4 : Below Z.heap.size Z y4 := below_trans hk0 hy4
    refine hK.out _ _ ?_ (fun hS2 => ?_)
    · exact ⟨trivial, fun _ => HS.out _ hk4⟩
    clear hK K hS1
    try simp only [Act.put, List.setIfInBounds_toArray, List.set_cons_zero, List.set_cons_succ]
    refine readyL (rs := [5]) (by kernel_rfl) (by simp) ?_
    refine AllReadyL.cons rfl (fun K hK => ?_) AllReadyL.nil
    go_simp
    refine (l1Consistent_any u tI _ _ _ _ _ (HKx.out _ hk4) (leaf_ty _ 2) (wf_of_vld HVx.out) (wf_of_vld vld_I)).mono ?_
    rintro e y5 ⟨he, hy5⟩
    have hk5 : Below Z.heap.size Z y5 := below_trans hk4 hy5
    rw [HC1.out] at he
    subst he
    refine hK.out _ _ ?_ (fun hS3 => ?_)
    · exact ⟨trivial, fun _ => HS.out _ hk5⟩
    clear hK K hS2
    try simp only [Act.put, List.setIfInBounds_toArray, List.set_cons_zero, List.set_cons_succ]
    refine takeL0 (i := 6) (v := ?va84) rfl rfl (by kernel_rfl) (by kernel_rfl) (by kernel_rfl) (by decide) (by kernel_rfl) (by kernel_rfl) (fun _ _ _ h => h) (Or.inl ⟨by rfl, ?hya84⟩) (by assumption) ?_
    case hya84 => (intro w hSw; (try dsimp only at hSw); go_simp; (try with_reducible rfl))
    try simp only [Act.put, List.setIfInBounds_toArray, List.set_cons_zero, List.set_cons_succ]
    refine takeL0 (i := 7) (v := undef) rfl rfl (by kernel_rfl) (by kernel_rfl) (by kernel_rfl) (by decide) (by kernel_rfl) (by kernel_rfl) (fun _ _ _ h => h) (Or.inr ⟨by rfl, rfl⟩) (by assumption) ?_
    try simp only [Act.put, List.setIfInBounds_toArray, List.set_cons_zero, List.set_cons_succ]
    refine takeL0 (i := 8) (v := undef) rfl rfl (by kernel_rfl) (by kernel_rfl) (by kernel_rfl) (by decide) (by kernel_rfl) (by kernel_rfl) (fun _ _ _ h => h) (Or.inr ⟨by rfl, rfl⟩) (by assumption) ?_
    try simp only [Act.put, List.setIfInBounds_toArray, List.set_cons_zero, List.set_cons_succ]
    refine takeL0 (i := 9) (v := undef) rfl rfl (by kernel_rfl) (by kernel_rfl) (by kernel_rfl) (by decide) (by kernel_rfl) (by kernel_rfl) (fun _ _ _ h => h) (Or.inr ⟨by rfl, rfl⟩) (by assumption) ?_
    try simp only [Act.put, List.setIfInBounds_toArray, List.set_cons_zero, List.set_cons_succ]
    refine takeL0 (i := 10) (v := undef) rfl rfl (by kernel_rfl) (by kernel_rfl) (by kernel_rfl) (by decide) (by kernel_rfl) (by kernel_rfl) (fun _ _ _ h => h) (Or.inr ⟨by rfl, rfl⟩) (by assumption) ?_
    try simp only [Act.put, List.setIfInBounds_toArray, List.set_cons_zero, List.set_cons_succ]
    refine takeL0 (i := 11) (v := undef) rfl rfl (by kernel_rfl) (by kernel_rfl) (by kernel_rfl) (by decide) (by kernel_rfl) (by kernel_rfl) (fun _ _ _ h => h) (Or.inr ⟨by rfl, rfl⟩) (by assumption) ?_
    try simp only [Act.put, List.setIfInBounds_toArray, List.set_cons_zero, List.set_cons_succ]
    refine takeL0 (i := 12) (v := ?va810) rfl rfl (by kernel_rfl) (by kernel_rfl) (by kernel_rfl) (by decide) (by kernel_rfl) (by kernel_rfl) (fun _ _ _ h => h) (Or.inl ⟨by rfl, ?hya810⟩) (by assumption) ?_
    case hya810 => (intro w hSw; (try dsimp only at hSw); go_simp; (try with_reducible rfl))
    try simp only [Act.put, List.setIfInBounds_toArray, List.set_cons_zero, List.set_cons_succ]
    refine readyL (rs := [13]) (by kernel_rfl) (by simp) ?_
    refine AllReadyL.cons rfl (fun K hK => ?_) AllReadyL.nil
    have qq := (hk5.block _ (lt_of_block HQ.out)).trans HQ.out
    have r0 : y5.cell? ⟨w.heap.size + 1, 0, none⟩ = some (.int .i64 0) := by rw [cell_of_block qq]; rfl
    have r1 : y5.cell? ⟨w.heap.size + 1, 1, none⟩ = some (.slice none 0 0) := by rw [cell_of_block qq]; rfl
    have rz := fun o => frozen_of_block (o := o) qq
    have rl := lt_of_block qq
    go_simp
    refine hK.out _ _ ?_ (fun hS4 => ?_)
    · exact ⟨trivial, fun _ => HSP.out y5 _ _ hk5⟩
    clear hK K hS3
    try simp only [Act.put, List.setIfInBounds_toArray, List.set_cons_zero, List.set_cons_succ]
    refine readyL (rs := [14]) (by kernel_rfl) (by simp) ?_
    refine AllReadyL.cons rfl (fun K hK => ?_) AllReadyL.nil
    go_simp
    refine hK.out _ _ ?_ (fun hS5 => ?_)
    · exact ⟨trivial, fun h => absurd (h.symm.trans (show _ = true by kernel_rfl)) (by decide)⟩
    clear hK K hS4
    try simp only [Act.put, List.setIfInBounds_toArray, List.set_cons_zero, List.set_cons_succ]
    refine doneL (by kernel_rfl) ?_ _
    have FIN := hid (MadeTO.stored (w := w) (P := w.heap.size + 1) (o := resM 8 ty [u, u2]) (T := tB) (fun u h => by rw [HN.out] at h; cases h) (by rw [HN.out] <;> rfl) (leaf_ty _ 3) (Fresh.nil _ _) (by omega) (by omega) (below_trans HB.out hk5))
    clear HS HSP HB HQ
    go_wp2_with fail
    exact bodyPost_ret (v := .tuple #[.agg #[.int .i64 3, .slice none 0 0], .bool false]) (by simp [results, Tryd.results115, go_sem, r0, r1]) rfl (by first | exact FIN.out | (rw [HRES.out]; exact FIN.out))
  | true =>
    have HC1 := hid hc1
    have HN := hid (HR2.out hc1)
    clear hc1 HR1 HR2
    cases hc2 : cons u2 tI with
    | false =>
      have HC2 := hid hc2
      rw [hc2] at HN
      clear hc2
      refine regionL (s := 14) (S0 := (fun w' => w'.cell? ⟨bx, ox, none⟩ = some (.int .i64 kx) ∧ w'.cell? ⟨bx, ox + 1, none⟩ = some (.slice ax nx cx) ∧ w'.cell? ⟨bx, ox + 2, none⟩ = some (.int .i64 kj) ∧ w'.cell? ⟨bx, ox + 2 + 1, none⟩ = some (.slice aj nj cj))) (S1 := (fun _ => True)) (by kernel_rfl) (HS.out _ (below_drew Z)) (trivial) (fun hS0 => ?_)
      refine takeL0 (i := 1) (v := ?vb81) rfl rfl (by kernel_rfl) (by kernel_rfl) (by kernel_rfl) (by decide) (by kernel_rfl) (by kernel_rfl) (fun _ _ _ h => h) (Or.inl ⟨by rfl, ?hyb81⟩) (by assumption) ?_
      case hyb81 => (intro w hSw; (try dsimp only at hSw); go_simp; (try with_reducible rfl))
      try simp only [Act.put, List.setIfInBounds_toArray, List.set_cons_zero, List.set_cons_succ]
      refine takeL0 (i := 2) (v := ?vb82) rfl rfl (by kernel_rfl) (by kernel_rfl) (by kernel_rfl) (by decide) (by kernel_rfl) (by kernel_rfl) (fun _ _ _ h => h) (Or.inl ⟨by rfl, ?hyb82⟩) (by assumption) ?_
      case hyb82 => (intro w hSw; (try dsimp only at hSw); go_simp; (try with_reducible rfl))
      try simp only [Act.put, List.setIfInBounds_toArray, List.set_cons_zero, List.set_cons_succ]
      refine takeL0 (i := 3) (v := ?vb83) rfl rfl (by kernel_rfl) (by kernel_rfl) (by kernel_rfl) (by decide) (by kernel_rfl) (by kernel_rfl) (fun _ _ _ h => h) (Or.inl ⟨by rfl, ?hyb83⟩) (by assumption) ?_
      case hyb83 => (intro w hSw; (try dsimp only at hSw); go_simp; (try with_reducible rfl))
      try simp only [Act.put, List.setIfInBounds_toArray, List.set_cons_zero, List.set_cons_succ]
      refine readyL (rs := [0]) (by kernel_rfl) (by simp) ?_
      refine AllReadyL.cons rfl (fun K hK => ?_) AllReadyL.nil
      go_simp
      refine (l3Bool_any _).mono ?_
      rintro e y0 ⟨rfl, hy0⟩
      have hk0 : Below Z.heap.size Z y0 := below_trans (below_drew Z) hy0
      refine hK.out _ _ ?_ (fun hS1 => ?_)
      · exact ⟨trivial, fun _ => HS.out _ hk0⟩
      clear hK K hS0
      try simp only [Act.put, List.setIfInBounds_toArray, List.set_cons_zero, List.set_cons_succ]
      refine readyL (rs := [4]) (by kernel_rfl) (by simp) ?_
      refine AllReadyL.cons rfl (fun K hK => ?_) AllReadyL.nil
      go_simp
      refine (l3Int_any _).mono ?_
      rintro e y4 ⟨rfl, hy4⟩
      have hk4 : Below Z.heap.size Z y4 := below_trans hk0 hy4
      refine hK.out _ _ ?_ (fun hS2 => ?_)
      · exact ⟨trivial, fun _ => HS.out _ hk4⟩
      clear hK K hS1
      try simp only [Act.put, List.setIfInBounds_toArray, List.set_cons_zero, List.set_cons_succ]
      refine readyL (rs := [5]) (by kernel_rfl) (by simp) ?_
      refine AllReadyL.cons rfl (fun K hK => ?_) AllReadyL.nil
      go_simp
      refine (l1Consistent_any u tI _ _ _ _ _ (HKx.out _ hk4) (leaf_ty _ 2) (wf_of_vld HVx.out) (wf_of_vld vld_I)).mono ?_
      rintro e y5 ⟨he, hy5⟩
      have hk5 : Below Z.heap.size Z y5 := below_trans hk4 hy5
      rw [HC1.out] at he
      subst he
      refine hK.out _ _ ?_ (fun hS3 => ?_)
      · exact ⟨trivial, fun _ => HS.out _ hk5⟩
      clear hK K hS2
      try simp only [Act.put, List.setIfInBounds_toArray, List.set_cons_zero, List.set_cons_succ]
      refine takeL0 (i := 6) (v := ?vb84) rfl rfl (by kernel_rfl) (by kernel_rfl) (by kernel_rfl) (by decide) (by kernel_rfl) (by kernel_rfl) (fun _ _ _ h => h) (Or.inl ⟨by rfl, ?hyb84⟩) (by assumption) ?_
      case hyb84 => (intro w hSw; (try dsimp only at hSw); go_simp; (try with_reducible rfl))
      try simp only [Act.put, List.setIfInBounds_toArray, List.set_cons_zero, List.set_cons_succ]
      refine takeL0 (i := 7) (v := ?vb85) rfl rfl (by kernel_rfl) (by kernel_rfl) (by kernel_rfl) (by decide) (by kernel_rfl) (by kernel_rfl) (fun _ _ _ h => h) (Or.inl ⟨by rfl, ?hyb85⟩) (by assumption) ?_
      case hyb85 => (intro w hSw; (try dsimp only at hSw); go_simp; (try with_reducible rfl))
      try simp only [Act.put, List.setIfInBounds_toArray, List.set_cons_zero, List.set_cons_succ]
      refine takeL0 (i := 8) (v := ?vb86) rfl rfl (by kernel_rfl) (by kernel_rfl) (by kernel_rfl) (by decide) (by kernel_rfl) (by kernel_rfl) (fun _ _ _ h => h) (Or.inl ⟨by rfl, ?hyb86⟩) (by assumption) ?_
      case hyb86 => (intro w hSw; (try dsimp only at hSw); go_simp; (try with_reducible rfl))
      try simp only [Act.put, List.setIfInBounds_toArray, List.set_cons_zero, List.set_cons_succ]
      refine takeL0 (i := 9) (v := ?vb87) rfl rfl (by kernel_rfl) (by kernel_rfl) (by kernel_rfl) (by decide) (by kernel_rfl) (by kernel_rfl) (fun _ _ _ h => h) (Or.inl ⟨by rfl, ?hyb87⟩) (by assumption) ?_
      case hyb87 => (intro w hSw; (try dsimp only at hSw); go_simp; (try with_reducible rfl))
      try simp only [Act.put, List.setIfInBounds_toArray, List.set_cons_zero, List.set_cons_succ]
      refine readyL (rs := [10]) (by kernel_rfl) (by simp) ?_
      refine AllReadyL.cons rfl (fun K hK => ?_) AllReadyL.nil
      go_simp
      refine (l3Int_any _).mono ?_
      rintro e y10 ⟨rfl, hy10⟩
      have hk10 : Below Z.heap.size Z y10 := below_trans hk5 hy10
      refine hK.out _ _ ?_ (fun hS4 => ?_)
      · exact ⟨trivial, fun _ => HS.out _ hk10⟩
      clear hK K hS3
      try simp only [Act.put, List.setIfInBounds_toArray, List.set_cons_zero, List.set_cons_succ]
      refine readyL (rs := [11]) (by kernel_rfl) (by simp) ?_
      refine AllReadyL.cons rfl (fun K hK => ?_) AllReadyL.nil
      go_simp
      refine (l1Consistent_any u2 tI _ _ _ _ _ (HKj.out _ hk10) (leaf_ty _ 2) (wf_of_vld HVj.out) (wf_of_vld vld_I)).mono ?_
      rintro e y11 ⟨he, hy11⟩
      have hk11 : Below Z.heap.size Z y11 := below_trans hk10 hy11
      rw [HC2.out] at he
      subst he
      refine hK.out _ _ ?_ (fun hS5 => ?_)
      · exact ⟨trivial, fun _ => HS.out _ hk11⟩
      clear hK K hS4
      try simp only [Act.put, List.setIfInBounds_toArray, List.set_cons_zero, List.set_cons_succ]
      refine takeL0 (i := 12) (v := ?vb88) rfl rfl (by kernel_rfl) (by kernel_rfl) (by kernel_rfl) (by decide) (by kernel_rfl) (by kernel_rfl) (fun _ _ _ h => h) (Or.inl ⟨by rfl, ?hyb88⟩) (by assumption) ?_
      case hyb88 => (intro w hSw; (try dsimp only at hSw); go_simp; (try with_reducible rfl))
      try simp only [Act.put, List.setIfInBounds_toArray, List.set_cons_zero, List.set_cons_succ]
      refine readyL (rs := [13]) (by kernel_rfl) (by simp) ?_
      refine AllReadyL.cons rfl (fun K hK => ?_) AllReadyL.nil
      have qq := (hk11.block _ (lt_of_block HQ.out)).trans HQ.out
      have r0 : y11.cell? ⟨w.heap.size + 1, 0, none⟩ = some (.int .i64 0) := by rw [cell_of_block qq]; rfl
      have r1 : y11.cell? ⟨w.heap.size + 1, 1, none⟩ = some (.slice none 0 0) := by rw [cell_of_block qq]; rfl
      have rz := fun o => frozen_of_block (o := o) qq
      have rl := lt_of_block qq
      go_simp
      refine hK.out _ _ ?_ (fun hS6 => ?_)
      · exact ⟨trivial, fun _ => HSP.out y11 _ _ hk11⟩
      clear hK K hS5
      try simp only [Act.put, List.setIfInBounds_toArray, List.set_cons_zero, List.set_cons_succ]
      refine readyL (rs := [14]) (by kernel_rfl) (by simp) ?_
      refine AllReadyL.cons rfl (fun K hK => ?_) AllReadyL.nil
      go_simp
      refine hK.out _ _ ?_ (fun hS7 => ?_)
      · exact ⟨trivial, fun h => absurd (h.symm.trans (show _ = true by kernel_rfl)) (by decide)⟩
      clear hK K hS6
      try simp only [Act.put, List.setIfInBounds_toArray, List.set_cons_zero, List.set_cons_succ]
      refine doneL (by kernel_rfl) ?_ _
      have FIN := hid (MadeTO.stored (w := w) (P := w.heap.size + 1) (o := resM 8 ty [u, u2]) (T := tB) (fun u h => by rw [HN.out] at h; cases h) (by rw [HN.out] <;> rfl) (leaf_ty _ 3) (Fresh.nil _ _) (by omega) (by omega) (below_trans HB.out hk11))
      clear HS HSP HB HQ
      go_wp2_with fail
      exact bodyPost_ret (v := .tuple #[.agg #[.int .i64 3, .slice none 0 0], .bool false]) (by simp [results, Tryd.results115, go_sem, r0, r1]) rfl (by first | exact FIN.out | (rw [HRES.out]; exact FIN.out))
    | true =>
      have HC2 := hid hc2
      rw [hc2] at HN
      clear hc2
      refine regionL (s := 14) (S0 := (fun w' => w'.cell? ⟨bx, ox, none⟩ = some (.int .i64 kx) ∧ w'.cell? ⟨bx, ox + 1, none⟩ = some (.slice ax nx cx) ∧ w'.cell? ⟨bx, ox + 2, none⟩ = some (.int .i64 kj) ∧ w'.cell? ⟨bx, ox + 2 + 1, none⟩ = some (.slice aj nj cj))) (S1 := (fun _ => True)) (by kernel_rfl) (HS.out _ (below_drew Z)) (trivial) (fun hS0 => ?_)
      refine takeL0 (i := 1) (v := ?vc81) rfl rfl (by kernel_rfl) (by kernel_rfl) (by kernel_rfl) (by decide) (by kernel_rfl) (by kernel_rfl) (fun _ _ _ h => h) (Or.inl ⟨by rfl, ?hyc81⟩) (by assumption) ?_
      case hyc81 => (intro w hSw; (try dsimp only at hSw); go_simp; (try with_reducible rfl))
      try simp only [Act.put, List.setIfInBounds_toArray, List.set_cons_zero, List.set_cons_succ]
      refine takeL0 (i := 2) (v := ?vc82) rfl rfl (by kernel_rfl) (by kernel_rfl) (by kernel_rfl) (by decide) (by kernel_rfl) (by kernel_rfl) (fun _ _ _ h => h) (Or.inl ⟨by rfl, ?hyc82⟩) (by assumption) ?_
      case hyc82 => (intro w hSw; (try dsimp only at hSw); go_simp; (try with_reducible rfl))
      try simp only [Act.put, List.setIfInBounds_toArray, List.set_cons_zero, List.set_cons_succ]
      refine takeL0 (i := 3) (v := ?vc83) rfl rfl (by kernel_rfl) (by kernel_rfl) (by kernel_rfl) (by decide) (by kernel_rfl) (by kernel_rfl) (fun _ _ _ h => h) (Or.inl ⟨by rfl, ?hyc83⟩) (by assumption) ?_
      case hyc83 => (intro w hSw; (try dsimp only at hSw); go_simp; (try with_reducible rfl))
      try simp only [Act.put, List.setIfInBounds_toArray, List.set_cons_zero, List.set_cons_succ]
      refine readyL (rs := [0]) (by kernel_rfl) (by simp) ?_
      refine AllReadyL.cons rfl (fun K hK => ?_) AllReadyL.nil
      go_simp
      refine (l3Bool_any _).mono ?_
      rintro e y0 ⟨rfl, hy0⟩
      have hk0 : Below Z.heap.size Z y0 := below_trans (below_drew Z) hy0
      refine hK.out _ _ ?_ (fun hS1 => ?_)
      · exact ⟨trivial, fun _ => HS.out _ hk0⟩
      clear hK K hS0
      try simp only [Act.put, List.setIfInBounds_toArray, List.set_cons_zero, List.set_cons_succ]
      refine readyL (rs := [4]) (by kernel_rfl) (by simp) ?_
      refine AllReadyL.cons rfl (fun K hK => ?_) AllReadyL.nil
      go_simp
      refine (l3Int_any _).mono ?_
      rintro e y4 ⟨rfl, hy4⟩
      have hk4 : Below Z.heap.size Z y4 := below_trans hk0 hy4
      refine hK.out _ _ ?_ (fun hS2 => ?_)
      · exact ⟨trivial, fun _ => HS.out _ hk4⟩
      clear hK K hS1
      try simp only [Act.put, List.setIfInBounds_toArray, List.set_cons_zero, List.set_cons_succ]
      refine readyL (rs := [5]) (by kernel_rfl) (by simp) ?_
      refine AllReadyL.cons rfl (fun K hK => ?_) AllReadyL.nil
      go_simp
      refine (l1Consistent_any u tI _ _ _ _ _ (HKx.out _ hk4) (leaf_ty _ 2) (wf_of_vld HVx.out) (wf_of_vld vld_I)).mono ?_
      rintro e y5 ⟨he, hy5⟩
      have hk5 : Below Z.heap.size Z y5 := below_trans hk4 hy5
      rw [HC1.out] at he
      subst he
      refine hK.out _ _ ?_ (fun hS3 => ?_)
      · exact ⟨trivial, fun _ => HS.out _ hk5⟩
      clear hK K hS2
      try simp only [Act.put, List.setIfInBounds_toArray, List.set_cons_zero, List.set_cons_succ]
      refine takeL0 (i := 6) (v := ?vc84) rfl rfl (by kernel_rfl) (by kernel_rfl) (by kernel_rfl) (by decide) (by kernel_rfl) (by kernel_rfl) (fun _ _ _ h => h) (Or.inl ⟨by rfl, ?hyc84⟩) (by assumption) ?_
      case hyc84 => (intro w hSw; (try dsimp only at hSw); go_simp; (try with_reducible rfl))
      try simp only [Act.put, List.setIfInBounds_toArray, List.set_cons_zero, List.set_cons_succ]
      refine takeL0 (i := 7) (v := ?vc85) rfl rfl (by kernel_rfl) (by kernel_rfl) (by kernel_rfl) (by decide) (by kernel_rfl) (by kernel_rfl) (fun _ _ _ h => h) (Or.inl ⟨by rfl, ?hyc85⟩) (by assumption) ?_
      case hyc85 => (intro w hSw; (try dsimp only at hSw); go_simp; (try with_reducible rfl))
      try simp only [Act.put, List.setIfInBounds_toArray, List.set_cons_zero, List.set_cons_succ]
      refine takeL0 (i := 8) (v := ?vc86) rfl rfl (by kernel_rfl) (by kernel_rfl) (by kernel_rfl) (by decide) (by kernel_rfl) (by kernel_rfl) (fun _ _ _ h => h) (Or.inl ⟨by rfl, ?hyc86⟩) (by assumption) ?_
      case hyc86 => (intro w hSw; (try dsimp only at hSw); go_simp; (try with_reducible rfl))
      try simp only [Act.put, List.setIfInBounds_toArray, List.set_cons_zero, List.set_cons_succ]
      refine takeL0 (i := 9) (v := ?vc87) rfl rfl (by kernel_rfl) (by kernel_rfl) (by kernel_rfl) (by decide) (by kernel_rfl) (by kernel_rfl) (fun _ _ _ h => h) (Or.inl ⟨by rfl, ?hyc87⟩) (by assumption) ?_
      case hyc87 => (intro w hSw; (try dsimp only at hSw); go_simp; (try with_reducible rfl))
      try simp only [Act.put, List.setIfInBounds_toArray, List.set_cons_zero, List.set_cons_succ]
      refine readyL (rs := [10]) (by kernel_rfl) (by simp) ?_
      refine AllReadyL.cons rfl (fun K hK => ?_) AllReadyL.nil
      go_simp
      refine (l3Int_any _).mono ?_
      rintro e y10 ⟨rfl, hy10⟩
      have hk10 : Below Z.heap.size Z y10 := below_trans hk5 hy10
      refine hK.out _ _ ?_ (fun hS4 => ?_)
      · exact ⟨trivial, fun _ => HS.out _ hk10⟩
      clear hK K hS3
      try simp only [Act.put, List.setIfInBounds_toArray, List.set_cons_zero, List.set_cons_succ]
      refine readyL (rs := [11]) (by kernel_rfl) (by simp) ?_
      refine AllReadyL.cons rfl (fun K hK => ?_) AllReadyL.nil
      go_simp
      refine (l1Consistent_any u2 tI _ _ _ _ _ (HKj.out _ hk10) (leaf_ty _ 2) (wf_of_vld HVj.out) (wf_of_vld vld_I)).mono ?_
      rintro e y11 ⟨he, hy11⟩
      have hk11 : Below Z.heap.size Z y11 := below_trans hk10 hy11
      rw [HC2.out] at he
      subst he
      refine hK.out _ _ ?_ (fun hS5 => ?_)
      · exact ⟨trivial, fun _ => HS.out _ hk11⟩
      clear hK K hS4
      try simp only [Act.put, List.setIfInBounds_toArray, List.set_cons_zero, List.set_cons_succ]
      refine takeL0 (i := 12) (v := ?vc88) rfl rfl (by kernel_rfl) (by kernel_rfl) (by kernel_rfl) (by decide) (by kernel_rfl) (by kernel_rfl) (fun _ _ _ h => h) (Or.inl ⟨by rfl, ?hyc88⟩) (by assumption) ?_
      case hyc88 => (intro w hSw; (try dsimp only at hSw); go_simp; (try with_reducible rfl))
      try simp only [Act.put, List.setIfInBounds_toArray, List.set_cons_zero, List.set_cons_succ]
      refine readyL (rs := [13]) (by kernel_rfl) (by simp) ?_
      refine AllReadyL.cons rfl (fun K hK => ?_) AllReadyL.nil
      have qq := (hk11.block _ (lt_of_block HQ.out)).trans HQ.out
      have r0 : y11.cell? ⟨w.heap.size + 1, 0, none⟩ = some (.int .i64 0) := by rw [cell_of_block qq]; rfl
      have r1 : y11.cell? ⟨w.heap.size + 1, 1, none⟩ = some (.slice none 0 0) := by rw [cell_of_block qq]; rfl
      have rz := fun o => frozen_of_block (o := o) qq
      have rl := lt_of_block qq
      go_simp
      refine hK.out _ _ ?_ (fun hS6 => ?_)
      · exact ⟨trivial, fun _ => HSP.out y11 _ _ hk11⟩
      clear hK K hS5
      try simp only [Act.put, List.setIfInBounds_toArray, List.set_cons_zero, List.set_cons_succ]
      refine readyL (rs := [14]) (by kernel_rfl) (by simp) ?_
      refine AllReadyL.cons rfl (fun K hK => ?_) AllReadyL.nil
      go_simp
      refine hK.out _ _ ?_ (fun hS7 => ?_)
      · exact ⟨trivial, fun h => absurd (h.symm.trans (show _ = true by kernel_rfl)) (by decide)⟩
      clear hK K hS6
      try simp only [Act.put, List.setIfInBounds_toArray, List.set_cons_zero, List.set_cons_succ]
      refine doneL (by kernel_rfl) ?_ _
      have FIN := hid (MadeTO.stored (w := w) (P := w.heap.size + 1) (o := resM 8 ty [u, u2]) (T := tB) (fun u h => by rw [HN.out] at h; cases h; rfl) (by rw [HN.out] <;> rfl) (leaf_ty _ 3) (Fresh.nil _ _) (by omega) (by omega) (below_trans HB.out hk11))
      clear HS HSP HB HQ
      go_wp2_with fail
      exact bodyPost_ret (v := .tuple #[.agg #[.int .i64 3, .slice none 0 0], .bool true]) (by simp [results, Tryd.results115, go_sem, r0, r1]) rfl (by first | exact FIN.out | (rw [HRES.out]; exact FIN.out))

set_option maxRecDepth 100000 in
set_option maxHeartbeats 4000000 in
theorem res_10 : ReC 10 := by
  intro nm num ty fr lb ts v fe us s fu w hat hus hlen hvl hty
  obtain ⟨k1, n1, a1, c1, k2, n2, a2, c2, a3, c3, f1, f2, f3, rfl, hnm, ht1, ht2, rfl, hs3⟩ := hat.parts
  have HB := hid (show Below w.heap.size w ((w.alloc (Obj.cells #[.int .i64 10, .string nm, .int .i64 num, .int .i64 k1, .slice a1 n1 c1, .int .i64 k2, .slice a2 n2 c2, .int .i64 lb, .slice a3 ts.length c3] 35)).alloc (Obj.cells #[.int .i64 0, .slice none 0 0] 32)) from ((Below.refl _ _).alloc (Nat.le_refl _) _).alloc (by simp) _)
  have HSZ := hid (show ((w.alloc (Obj.cells #[.int .i64 10, .string nm, .int .i64 num, .int .i64 k1, .slice a1 n1 c1, .int .i64 k2, .slice a2 n2 c2, .int .i64 lb, .slice a3 ts.length c3] 35)).alloc (Obj.cells #[.int .i64 0, .slice none 0 0] 32)).heap.size = w.heap.size + 1 + 1 by simp)
  have HQ := hid (two_out (Below.refl _ ((w.alloc (Obj.cells #[.int .i64 10, .string nm, .int .i64 num, .int .i64 k1, .slice a1 n1 c1, .int .i64 k2, .slice a2 n2 c2, .int .i64 lb, .slice a3 ts.length c3] 35)).alloc (Obj.cells #[.int .i64 0, .slice none 0 0] 32)))).2
  obtain ⟨z0, z1, z2, z3, z4, z5, z6, z7, z8⟩ := cells9 (two_out (Below.refl _ ((w.alloc (Obj.cells #[.int .i64 10, .string nm, .int .i64 num, .int .i64 k1, .slice a1 n1 c1, .int .i64 k2, .slice a2 n2 c2, .int .i64 lb, .slice a3 ts.length c3] 35)).alloc (Obj.cells #[.int .i64 0, .slice none 0 0] 32)))).1
  obtain ⟨u, u2, rfl⟩ : ∃ a b, us = [a, b] := by
    have hl0 : us.length = 2 := by have : kidsM 10 = 2 := (by decide); omega
    match us, hl0 with
    | [a, b], _ => exact ⟨a, b, rfl⟩
  obtain ⟨sa, sc, hss, hcap, hmx, hget⟩ := hus.openA
  subst hss
  obtain ⟨bx, ox, kx, nx, ax, cx, gx, hpx, hltx, ex0, ex1, hkx, -⟩ := hget 0 (by simp)
  obtain ⟨bj, oj, kj, nj, aj, cj, gj, hpj, hltj, ej0, ej1, hkj, -⟩ := hget 1 (by simp)
  rw [hpx] at hpj
  simp only [Option.some.injEq, Addr.mk.injEq, and_true] at hpj
  obtain ⟨rfl, rfl⟩ := hpj
  subst hpx
  simp (config := { failIfUnchanged := false }) only [Nat.zero_mul, Nat.add_zero, Nat.one_mul, List.getElem_cons_zero, List.getElem_cons_succ] at ex0 ex1 hkx ej0 ej1 hkj
  replace ex0 := cell_keep ex0 HB.out
  replace ex1 := cell_keep ex1 HB.out
  have HVx := hid (hvl u (by simp))
  have HKx := hid (fun (W : World) (h : Below ((w.alloc (Obj.cells #[.int .i64 10, .string nm, .int .i64 num, .int .i64 k1, .slice a1 n1 c1, .int .i64 k2, .slice a2 n2 c2, .int .i64 lb, .slice a3 ts.length c3] 35)).alloc (Obj.cells #[.int .i64 0, .slice none 0 0] 32)).heap.size ((w.alloc (Obj.cells #[.int .i64 10, .string nm, .int .i64 num, .int .i64 k1, .slice a1 n1 c1, .int .i64 k2, .slice a2 n2 c2, .int .i64 lb, .slice a3 ts.length c3] 35)).alloc (Obj.cells #[.int .i64 0, .slice none 0 0] 32)) W) => hkx.below (below_trans HB.out h))
  replace ej0 := cell_keep ej0 HB.out
  replace ej1 := cell_keep ej1 HB.out
  have HVj := hid (hvl u2 (by simp))
  have HKj := hid (fun (W : World) (h : Below ((w.alloc (Obj.cells #[.int .i64 10, .string nm, .int .i64 num, .int .i64 k1, .slice a1 n1 c1, .int .i64 k2, .slice a2 n2 c2, .int .i64 lb, .slice a3 ts.length c3] 35)).alloc (Obj.cells #[.int .i64 0, .slice none 0 0] 32)).heap.size ((w.alloc (Obj.cells #[.int .i64 10, .string nm, .int .i64 num, .int .i64 k1, .slice a1 n1 c1, .int .i64 k2, .slice a2 n2 c2, .int .i64 lb, .slice a3 ts.length c3] 35)).alloc (Obj.cells #[.int .i64 0, .slice none 0 0] 32)) W) => hkj.below (below_trans HB.out h))
  have HT1 := hid (fun (W : World) (h : Below ((w.alloc (Obj.cells #[.int .i64 10, .string nm, .int .i64 num, .int .i64 k1, .slice a1 n1 c1, .int .i64 k2, .slice a2 n2 c2, .int .i64 lb, .slice a3 ts.length c3] 35)).alloc (Obj.cells #[.int .i64 0, .slice none 0 0] 32)).heap.size ((w.alloc (Obj.cells #[.int .i64 10, .string nm, .int .i64 num, .int .i64 k1, .slice a1 n1 c1, .int .i64 k2, .slice a2 n2 c2, .int .i64 lb, .slice a3 ts.length c3] 35)).alloc (Obj.cells #[.int .i64 0, .slice none 0 0] 32)) W) => ht1.below (below_trans HB.out h))
  have HTY := hid hty
  have HS := hid (fun (W : World) (h : Below ((w.alloc (Obj.cells #[.int .i64 10, .string nm, .int .i64 num, .int .i64 k1, .slice a1 n1 c1, .int .i64 k2, .slice a2 n2 c2, .int .i64 lb, .slice a3 ts.length c3] 35)).alloc (Obj.cells #[.int .i64 0, .slice none 0 0] 32)).heap.size ((w.alloc (Obj.cells #[.int .i64 10, .string nm, .int .i64 num, .int .i64 k1, .slice a1 n1 c1, .int .i64 k2, .slice a2 n2 c2, .int .i64 lb, .slice a3 ts.length c3] 35)).alloc (Obj.cells #[.int .i64 0, .slice none 0 0] 32)) W) => (show W.cell? ⟨bx, ox, none⟩ = some (.int .i64 kx) ∧ W.cell? ⟨bx, ox + 1, none⟩ = some (.slice ax nx cx) ∧ W.cell? ⟨bx, ox + 2, none⟩ = some (.int .i64 kj) ∧ W.cell? ⟨bx, ox + 2 + 1, none⟩ = some (.slice aj nj cj) from ⟨cell_keep ex0 h, cell_keep ex1 h, cell_keep ej0 h, cell_keep ej1 h⟩))
  have HSP := hid (fun (W : World) (x y : Value) (h : Below ((w.alloc (Obj.cells #[.int .i64 10, .string nm, .int .i64 num, .int .i64 k1, .slice a1 n1 c1, .int .i64 k2, .slice a2 n2 c2, .int .i64 lb, .slice a3 ts.length c3] 35)).alloc (Obj.cells #[.int .i64 0, .slice none 0 0] 32)).heap.size ((w.alloc (Obj.cells #[.int .i64 10, .string nm, .int .i64 num, .int .i64 k1, .slice a1 n1 c1, .int .i64 k2, .slice a2 n2 c2, .int .i64 lb, .slice a3 ts.length c3] 35)).alloc (Obj.cells #[.int .i64 0, .slice none 0 0] 32)) W) => (show ((W.setCell ⟨w.heap.size + 1, 0, none⟩ x).setCell ⟨w.heap.size + 1, 1, none⟩ y).cell? ⟨bx, ox, none⟩ = some (.int .i64 kx) ∧ ((W.setCell ⟨w.heap.size + 1, 0, none⟩ x).setCell ⟨w.heap.size + 1, 1, none⟩ y).cell? ⟨bx, ox + 1, none⟩ = some (.slice ax nx cx) ∧ ((W.setCell ⟨w.heap.size + 1, 0, none⟩ x).setCell ⟨w.heap.size + 1, 1, none⟩ y).cell? ⟨bx, ox + 2, none⟩ = some (.int .i64 kj) ∧ ((W.setCell ⟨w.heap.size + 1, 0, none⟩ x).setCell ⟨w.heap.size + 1, 1, none⟩ y).cell? ⟨bx, ox + 2 + 1, none⟩ = some (.slice aj nj cj) from ⟨two_keepS (cell_keep ex0 h) (by omega) _ _, two_keepS (cell_keep ex1 h) (by omega) _ _, two_keepS (cell_keep ej0 h) (by omega) _ _, two_keepS (cell_keep ej1 h) (by omega) _ _⟩))
  clear hat hus hlen hvl hs3 ht1 ht2 hget hcap hmx hty hkx hkj
  generalize hV : vld (Ty.mk 5 [u, u2]) = V
  have HR1 := hid (show ∀ x, resM 10 ty [u, u2] = some x → Ty.mk 5 [u, u2] = x from fun x h => by
    have h' : twoV 5 u u2 = some x := h
    unfold twoV at h'
    by_cases hv : vld (Ty.mk 5 [u, u2]) = true
    · rw [if_pos hv] at h'; cases h'; rfl
    · rw [if_neg hv] at h'; cases h')
  have HR2 := hid (show (resM 10 ty [u, u2]).isSome = V from by
    have h' : resM 10 ty [u, u2] = twoV 5 u u2 := rfl
    rw [h', ← hV]
    unfold twoV
    cases vld (Ty.mk 5 [u, u2]) <;> rfl)
  have HTW := hid (fun (W : World) (h1 : u.At W (.agg #[.int .i64 kx, .slice ax nx cx]) gx) (h2 : u2.At W (.agg #[.int .i64 kj, .slice aj nj cj]) gj) => l3Two_any 5 u u2 _ _ gx gj W h1 h2 (shp_cnt8 HVx.out (by omega)) (shp_cnt8 HVj.out (by omega)))
  rw [hV] at HTW
  clear hV
  go_enter Tryd.func115, Tryd.ntmps115
  go_wp2_with fail
  generalize ((w.alloc (Obj.cells #[.int .i64 10, .string nm, .int .i64 num, .int .i64 k1, .slice a1 n1 c1, .int .i64 k2, .slice a2 n2 c2, .int .i64 lb, .slice a3 ts.length c3] 35)).alloc (Obj.cells #[.int .i64 0, .slice none 0 0] 32)) = Z at *
  have hzS : w.heap.size + 1 < Z.heap.size := by rw [HSZ.out]; omega
  refine regionL (s := 10) (S0 := (fun w' => w'.cell? ⟨bx, ox, none⟩ = some (.int .i64 kx) ∧ w'.cell? ⟨bx, ox + 1, none⟩ = some (.slice ax nx cx) ∧ w'.cell? ⟨bx, ox + 2, none⟩ = some (.int .i64 kj) ∧ w'.cell? ⟨bx, ox + 2 + 1, none⟩ = some (.slice aj nj cj))) (S1 := (fun _ => True)) (by kernel_rfl) (HS.out _ (below_drew Z)) (trivial) (fun hS0 => ?_)
  refine takeL0 (i := 0) (v := ?vd101) rfl rfl (by kernel_rfl) (by kernel_rfl) (by kernel_rfl) (by decide) (by kernel_rfl) (by kernel_rfl) (fun _ _ _ h => h) (Or.inl ⟨by rfl, ?hyd101⟩) (by assumption) ?_
  case hyd101 => (intro w hSw; (try dsimp only at hSw); go_simp; (try with_reducible rfl))
  try simp only [Act.put, List.setIfInBounds_toArray, List.set_cons_zero, List.set_cons_succ]
  refine takeL0 (i := 1) (v := ?vd102) rfl rfl (by kernel_rfl) (by kernel_rfl) (by kernel_rfl) (by decide) (by kernel_rfl) (by kernel_rfl) (fun _ _ _ h => h) (Or.inl ⟨by rfl, ?hyd102⟩) (by assumption) ?_
  case hyd102 => (intro w hSw; (try dsimp only at hSw); go_simp; (try with_reducible rfl))
  try simp only [Act.put, List.setIfInBounds_toArray, List.set_cons_zero, List.set_cons_succ]
  refine takeL0 (i := 2) (v := ?vd103) rfl rfl (by kernel_rfl) (by kernel_rfl) (by kernel_rfl) (by decide) (by kernel_rfl) (by kernel_rfl) (fun _ _ _ h => h) (Or.inl ⟨by rfl, ?hyd103⟩) (by assumption) ?_
  case hyd103 => (intro w hSw; (try dsimp only at hSw); go_simp; (try with_reducible rfl))
  try simp only [Act.put, List.setIfInBounds_toArray, List.set_cons_zero, List.set_cons_succ]
  refine takeL0 (i := 3) (v := ?vd104) rfl rfl (by kernel_rfl) (by kernel_rfl) (by kernel_rfl) (by decide) (by kernel_rfl) (by kernel_rfl) (fun _ _ _ h => h) (Or.inl ⟨by rfl, ?hyd104⟩) (by assumption) ?_
  case hyd104 => (intro w hSw; (try dsimp only at hSw); go_simp; (try with_reducible rfl))
  try simp only [Act.put, List.setIfInBounds_toArray, List.set_cons_zero, List.set_cons_succ]
  refine takeL0 (i := 4) (v := ?vd105) rfl rfl (by kernel_rfl) (by kernel_rfl) (by kernel_rfl) (by decide) (by kernel_rfl) (by kernel_rfl) (fun _ _ _ h => h) (Or.inl ⟨by rfl, ?hyd105⟩) (by assumption) ?_
  case hyd105 => (intro w hSw; (try dsimp only at hSw); go_simp; (try with_reducible rfl))
  try simp only [Act.put, List.setIfInBounds_toArray, List.set_cons_zero, List.set_cons_succ]
  refine takeL0 (i := 5) (v := ?vd106) rfl rfl (by kernel_rfl) (by kernel_rfl) (by kernel_rfl) (by decide) (by kernel_rfl) (by kernel_rfl) (fun _ _ _ h => h) (Or.inl ⟨by rfl, ?hyd106⟩) (by assumption) ?_
  case hyd106 => (intro w hSw; (try dsimp only at hSw); go_simp; (try with_reducible rfl))
  try simp only [Act.put, List.setIfInBounds_toArray, List.set_cons_zero, List.set_cons_succ]
  refine readyL (rs := [6]) (by kernel_rfl) (by simp) ?_
  refine AllReadyL.cons rfl (fun K hK => ?_) AllReadyL.nil
  go_simp
  refine (HTW.out _ (HKx.out _ (below_drew Z)) (HKj.out _ (below_drew Z))).mono ?_
  rintro e y6 ⟨v6, f6, rfl, hat6, hf6, hy6⟩
  have hk6 : Below Z.heap.size Z y6 := below_trans (below_drew Z) hy6
  obtain ⟨k6, n6, a6, c6, rfl⟩ := hat6.agg
  refine hK.out _ _ ?_ (fun hS1 => ?_)
  · exact ⟨trivial, fun _ => HS.out _ hk6⟩
  clear hK K hS0
  try simp only [Act.put, List.setIfInBounds_toArray, List.set_cons_zero, List.set_cons_succ]
  refine takeL0 (i := 7) (v := ?vd107) rfl rfl (by kernel_rfl) (by kernel_rfl) (by kernel_rfl) (by decide) (by kernel_rfl) (by kernel_rfl) (fun _ _ _ h => h) (Or.inl ⟨by rfl, ?hyd107⟩) (by assumption) ?_
  case hyd107 => (intro w hSw; (try dsimp only at hSw); go_simp; (try with_reducible rfl))
  try simp only [Act.put, List.setIfInBounds_toArray, List.set_cons_zero, List.set_cons_succ]
  refine takeL0 (i := 8) (v := ?vd108) rfl rfl (by kernel_rfl) (by kernel_rfl) (by kernel_rfl) (by decide) (by kernel_rfl) (by kernel_rfl) (fun _ _ _ h => h) (Or.inl ⟨by rfl, ?hyd108⟩) (by assumption) ?_
  case hyd108 => (intro w hSw; (try dsimp only at hSw); go_simp; (try with_reducible rfl))
  try simp only [Act.put, List.setIfInBounds_toArray, List.set_cons_zero, List.set_cons_succ]
  refine readyL (rs := [9]) (by kernel_rfl) (by simp) ?_
  refine AllReadyL.cons rfl (fun K hK => ?_) AllReadyL.nil
  have qq := (hk6.block _ (lt_of_block HQ.out)).trans HQ.out
  have r0 : y6.cell? ⟨w.heap.size + 1, 0, none⟩ = some (.int .i64 0) := by rw [cell_of_block qq]; rfl
  have r1 : y6.cell? ⟨w.heap.size + 1, 1, none⟩ = some (.slice none 0 0) := by rw [cell_of_block qq]; rfl
  have rz := fun o => frozen_of_block (o := o) qq
  have rl := lt_of_block qq
  go_simp
  refine hK.out _ _ ?_ (fun hS2 => ?_)
  · exact ⟨trivial, fun _ => HSP.out y6 _ _ hk6⟩
  clear hK K hS1
  try simp only [Act.put, List.setIfInBounds_toArray, List.set_cons_zero, List.set_cons_succ]
  refine readyL (rs := [10]) (by kernel_rfl) (by simp) ?_
  refine AllReadyL.cons rfl (fun K hK => ?_) AllReadyL.nil
  go_simp
  refine hK.out _ _ ?_ (fun hS3 => ?_)
  · exact ⟨trivial, fun h => absurd (h.symm.trans (show _ = true by kernel_rfl)) (by decide)⟩
  clear hK K hS2
  try simp only [Act.put, List.setIfInBounds_toArray, List.set_cons_zero, List.set_cons_succ]
  refine doneL (by kernel_rfl) ?_ _
  have FIN := hid (MadeTO.stored (w := w) (P := w.heap.size + 1) (o := resM 10 ty [u, u2]) (T := (Ty.mk 5 [u, u2])) HR1.out HR2.out hat6 (hf6.mono (below_drew Z).size) (by omega) (by omega) (below_trans HB.out hk6))
  clear HS HSP HB HQ
  go_wp2_with fail
  exact bodyPost_ret (v := .tuple #[.agg #[.int .i64 k6, .slice a6 n6 c6], .bool V]) (by simp [results, Tryd.results115, go_sem, r0, r1]) rfl (by first | exact FIN.out | (rw [HRES.out]; exact FIN.out))

set_option maxRecDepth 100000 in
set_option maxHeartbeats 4000000 in
theorem res_13 : ReC 13 := by
  intro nm num ty fr lb ts v fe us s fu w hat hus hlen hvl hty
  obtain ⟨k1, n1, a1, c1, k2, n2, a2, c2, a3, c3, f1, f2, f3, rfl, hnm, ht1, ht2, rfl, hs3⟩ := hat.parts
  have HB := hid (show Below w.heap.size w ((w.alloc (Obj.cells #[.int .i64 13, .string nm, .int .i64 num, .int .i64 k1, .slice a1 n1 c1, .int .i64 k2, .slice a2 n2 c2, .int .i64 lb, .slice a3 ts.length c3] 35)).alloc (Obj.cells #[.int .i64 0, .slice none 0 0] 32)) from ((Below.refl _ _).alloc (Nat.le_refl _) _).alloc (by simp) _)
  have HSZ := hid (show ((w.alloc (Obj.cells #[.int .i64 13, .string nm, .int .i64 num, .int .i64 k1, .slice a1 n1 c1, .int .i64 k2, .slice a2 n2 c2, .int .i64 lb, .slice a3 ts.length c3] 35)).alloc (Obj.cells #[.int .i64 0, .slice none 0 0] 32)).heap.size = w.heap.size + 1 + 1 by simp)
  have HQ := hid (two_out (Below.refl _ ((w.alloc (Obj.cells #[.int .i64 13, .string nm, .int .i64 num, .int .i64 k1, .slice a1 n1 c1, .int .i64 k2, .slice a2 n2 c2, .int .i64 lb, .slice a3 ts.length c3] 35)).alloc (Obj.cells #[.int .i64 0, .slice none 0 0] 32)))).2
  obtain ⟨z0, z1, z2, z3, z4, z5, z6, z7, z8⟩ := cells9 (two_out (Below.refl _ ((w.alloc (Obj.cells #[.int .i64 13, .string nm, .int .i64 num, .int .i64 k1, .slice a1 n1 c1, .int .i64 k2, .slice a2 n2 c2, .int .i64 lb, .slice a3 ts.length c3] 35)).alloc (Obj.cells #[.int .i64 0, .slice none 0 0] 32)))).1
  have hl0 : us.length = 1 := by have : kidsM 13 = 1 := (by decide); omega
  obtain ⟨u, rfl⟩ := List.length_eq_one_iff.1 hl0
  obtain ⟨sa, sc, hss, hcap, hmx, hget⟩ := hus.openA
  subst hss
  obtain ⟨bx, ox, kx, nx, ax, cx, gx, hpx, hltx, ex0, ex1, hkx, -⟩ := hget 0 (by simp)
  subst hpx
  simp (config := { failIfUnchanged := false }) only [Nat.zero_mul, Nat.add_zero, List.getElem_cons_zero] at ex0 ex1 hkx
  replace ex0 := cell_keep ex0 HB.out
  replace ex1 := cell_keep ex1 HB.out
  have HVx := hid (hvl u (by simp))
  have HKx := hid (fun (W : World) (h : Below ((w.alloc (Obj.cells #[.int .i64 13, .string nm, .int .i64 num, .int .i64 k1, .slice a1 n1 c1, .int .i64 k2, .slice a2 n2 c2, .int .i64 lb, .slice a3 ts.length c3] 35)).alloc (Obj.cells #[.int .i64 0, .slice none 0 0] 32)).heap.size ((w.alloc (Obj.cells #[.int .i64 13, .string nm, .int .i64 num, .int .i64 k1, .slice a1 n1 c1, .int .i64 k2, .slice a2 n2 c2, .int .i64 lb, .slice a3 ts.length c3] 35)).alloc (Obj.cells #[.int .i64 0, .slice none 0 0] 32)) W) => hkx.below (below_trans HB.out h))
  have HT1 := hid (fun (W : World) (h : Below ((w.alloc (Obj.cells #[.int .i64 13, .string nm, .int .i64 num, .int .i64 k1, .slice a1 n1 c1, .int .i64 k2, .slice a2 n2 c2, .int .i64 lb, .slice a3 ts.length c3] 35)).alloc (Obj.cells #[.int .i64 0, .slice none 0 0] 32)).heap.size ((w.alloc (Obj.cells #[.int .i64 13, .string nm, .int .i64 num, .int .i64 k1, .slice a1 n1 c1, .int .i64 k2, .slice a2 n2 c2, .int .i64 lb, .slice a3 ts.length c3] 35)).alloc (Obj.cells #[.int .i64 0, .slice none 0 0] 32)) W) => ht1.below (below_trans HB.out h))
  have HTY := hid hty
  have HS := hid (fun (W : World) (h : Below ((w.alloc (Obj.cells #[.int .i64 13, .string nm, .int .i64 num, .int .i64 k1, .slice a1 n1 c1, .int .i64 k2, .slice a2 n2 c2, .int .i64 lb, .slice a3 ts.length c3] 35)).alloc (Obj.cells #[.int .i64 0, .slice none 0 0] 32)).heap.size ((w.alloc (Obj.cells #[.int .i64 13, .string nm, .int .i64 num, .int .i64 k1, .slice a1 n1 c1, .int .i64 k2, .slice a2 n2 c2, .int .i64 lb, .slice a3 ts.length c3] 35)).alloc (Obj.cells #[.int .i64 0, .slice none 0 0] 32)) W) => (show W.cell? ⟨bx, ox, none⟩ = some (.int .i64 kx) ∧ W.cell? ⟨bx, ox + 1, none⟩ = some (.slice ax nx cx) ∧ W.cell? ⟨w.heap.size, 3, none⟩ = some (.int .i64 k1) ∧ W.cell? ⟨w.heap.size, 4, none⟩ = some (.slice a1 n1 c1) from ⟨cell_keep ex0 h, cell_keep ex1 h, cell_keep z3 h, cell_keep z4 h⟩))
  have HSP := hid (fun (W : World) (x y : Value) (h : Below ((w.alloc (Obj.cells #[.int .i64 13, .string nm, .int .i64 num, .int .i64 k1, .slice a1 n1 c1, .int .i64 k2, .slice a2 n2 c2, .int .i64 lb, .slice a3 ts.length c3] 35)).alloc (Obj.cells #[.int .i64 0, .slice none 0 0] 32)).heap.size ((w.alloc (Obj.cells #[.int .i64 13, .string nm, .int .i64 num, .int .i64 k1, .slice a1 n1 c1, .int .i64 k2, .slice a2 n2 c2, .int .i64 lb, .slice a3 ts.length c3] 35)).alloc (Obj.cells #[.int .i64 0, .slice none 0 0] 32)) W) => (show ((W.setCell ⟨w.heap.size + 1, 0, none⟩ x).setCell ⟨w.heap.size + 1, 1, none⟩ y).cell? ⟨bx, ox, none⟩ = some (.int .i64 kx) ∧ ((W.setCell ⟨w.heap.size + 1, 0, none⟩ x).setCell ⟨w.heap.size + 1, 1, none⟩ y).cell? ⟨bx, ox + 1, none⟩ = some (.slice ax nx cx) ∧ ((W.setCell ⟨w.heap.size + 1, 0, none⟩ x).setCell ⟨w.heap.size + 1, 1, none⟩ y).cell? ⟨w.heap.size, 3, none⟩ = some (.int .i64 k1) ∧ ((W.setCell ⟨w.heap.size + 1, 0, none⟩ x).setCell ⟨w.heap.size + 1, 1, none⟩ y).cell? ⟨w.heap.size, 4, none⟩ = some (.slice a1 n1 c1) from ⟨two_keepS (cell_keep ex0 h) (by omega) _ _, two_keepS (cell_keep ex1 h) (by omega) _ _, two_keepS (cell_keep z3 h) (by omega) _ _, two_keepS (cell_keep z4 h) (by omega) _ _⟩))
  clear hat hus hlen hvl hs3 ht1 ht2 hget hcap hmx hty hkx hl0
  have HR1 := hid (show ∀ x, resM 13 ty [u] = some x → ty = x from fun x h => by
    have h' : (if cons u ty = true then some ty else none) = some x := h
    by_cases hv : cons u ty = true
    · rw [if_pos hv] at h'; cases h'; rfl
    · rw [if_neg hv] at h'; cases h')
  have HR2 := hid (show (resM 13 ty [u]).isSome = cons u ty from by
    have h' : resM 13 ty [u] = (if cons u ty = true then some ty else none) := rfl
    rw [h']
    cases cons u ty <;> rfl)
  have HTV := hid (HTY.out rfl)
  have HCS := hid (fun (W : World) (h1 : u.At W (.agg #[.int .i64 kx, .slice ax nx cx]) gx) (h2 : ty.At W (.agg #[.int .i64 k1, .slice a1 n1 c1]) f1) => l1Consistent_any u ty _ _ gx f1 W h1 h2 (wf_of_vld HVx.out) (wf_of_vld HTV.out))
  generalize cons u ty = V at *
  go_enter Tryd.func115, Tryd.ntmps115
  go_wp2_with fail
  generalize ((w.alloc (Obj.cells #[.int .i64 13, .string nm, .int .i64 num, .int .i64 k1, .slice a1 n1 c1, .int .i64 k2, .slice a2 n2 c2, .int .i64 lb, .slice a3 ts.length c3] 35)).alloc (Obj.cells #[.int .i64 0, .slice none 0 0] 32)) = Z at *
  have hzS : w.heap.size + 1 < Z.heap.size := by rw [HSZ.out]; omega
  refine regionL (s := 10) (S0 := (fun w' => w'.cell? ⟨bx, ox, none⟩ = some (.int .i64 kx) ∧ w'.cell? ⟨bx, ox + 1, none⟩ = some (.slice ax nx cx) ∧ w'.cell? ⟨w.heap.size, 3, none⟩ = some (.int .i64 k1) ∧ w'.cell? ⟨w.heap.size, 4, none⟩ = some (.slice a1 n1 c1))) (S1 := (fun _ => True)) (by kernel_rfl) (HS.out _ (below_drew Z)) (trivial) (fun hS0 => ?_)
  refine takeL0 (i := 0) (v := ?vd131) rfl rfl (by kernel_rfl) (by kernel_rfl) (by kernel_rfl) (by decide) (by kernel_rfl) (by kernel_rfl) (fun _ _ _ h => h) (Or.inl ⟨by rfl, ?hyd131⟩) (by assumption) ?_
  case hyd131 => (intro w hSw; (try dsimp only at hSw); go_simp; (try with_reducible rfl))
  try simp only [Act.put, List.setIfInBounds_toArray, List.set_cons_zero, List.set_cons_succ]
  refine takeL0 (i := 1) (v := ?vd132) rfl rfl (by kernel_rfl) (by kernel_rfl) (by kernel_rfl) (by decide) (by kernel_rfl) (by kernel_rfl) (fun _ _ _ h => h) (Or.inl ⟨by rfl, ?hyd132⟩) (by assumption) ?_
  case hyd132 => (intro w hSw; (try dsimp only at hSw); go_simp; (try with_reducible rfl))
  try simp only [Act.put, List.setIfInBounds_toArray, List.set_cons_zero, List.set_cons_succ]
  refine takeL0 (i := 3) (v := ?vd133) rfl rfl (by kernel_rfl) (by kernel_rfl) (by kernel_rfl) (by decide) (by kernel_rfl) (by kernel_rfl) (fun _ _ _ h => h) (Or.inl ⟨by rfl, ?hyd133⟩) (by assumption) ?_
  case hyd133 => (intro w hSw; (try dsimp only at hSw); go_simp; (try with_reducible rfl))
  try simp only [Act.put, List.setIfInBounds_toArray, List.set_cons_zero, List.set_cons_succ]
  refine takeL0 (i := 4) (v := ?vd134) rfl rfl (by kernel_rfl) (by kernel_rfl) (by kernel_rfl) (by decide) (by kernel_rfl) (by kernel_rfl) (fun _ _ _ h => h) (Or.inl ⟨by rfl, ?hyd134⟩) (by assumption) ?_
  case hyd134 => (intro w hSw; (try dsimp only at hSw); go_simp; (try with_reducible rfl))
  try simp only [Act.put, List.setIfInBounds_toArray, List.set_cons_zero, List.set_cons_succ]
  refine takeL0 (i := 5) (v := ?vd135) rfl rfl (by kernel_rfl) (by kernel_rfl) (by kernel_rfl) (by decide) (by kernel_rfl) (by kernel_rfl) (fun _ _ _ h => h) (Or.inl ⟨by rfl, ?hyd135⟩) (by assumption) ?_
  case hyd135 => (intro w hSw; (try dsimp only at hSw); go_simp; (try with_reducible rfl))
  try simp only [Act.put, List.setIfInBounds_toArray, List.set_cons_zero, List.set_cons_succ]
  refine takeL0 (i := 6) (v := ?vd136) rfl rfl (by kernel_rfl) (by kernel_rfl) (by kernel_rfl) (by decide) (by kernel_rfl) (by kernel_rfl) (fun _ _ _ h => h) (Or.inl ⟨by rfl, ?hyd136⟩) (by assumption) ?_
  case hyd136 => (intro w hSw; (try dsimp only at hSw); go_simp; (try with_reducible rfl))
  try simp only [Act.put, List.setIfInBounds_toArray, List.set_cons_zero, List.set_cons_succ]
  refine takeL0 (i := 7) (v := ?vd137) rfl rfl (by kernel_rfl) (by kernel_rfl) (by kernel_rfl) (by decide) (by kernel_rfl) (by kernel_rfl) (fun _ _ _ h => h) (Or.inl ⟨by rfl, ?hyd137⟩) (by assumption) ?_
  case hyd137 => (intro w hSw; (try dsimp only at hSw); go_simp; (try with_reducible rfl))
  try simp only [Act.put, List.setIfInBounds_toArray, List.set_cons_zero, List.set_cons_succ]
  refine readyL (rs := [2]) (by kernel_rfl) (by simp) ?_
  refine AllReadyL.cons rfl (fun K hK => ?_) AllReadyL.nil
  go_simp
  refine (l1Copy_any ty _ _ _ (HT1.out _ (below_drew Z)) (shp_cnt8 HTV.out (by omega))).mono ?_
  rintro e y2 ⟨v2, f2c, rfl, hat2, hf2c, hy2⟩
  have hk2 : Below Z.heap.size Z y2 := below_trans (below_drew Z) hy2
  obtain ⟨k6, n6, a6, c6, rfl⟩ := hat2.agg
  refine hK.out _ _ ?_ (fun hS1 => ?_)
  · exact ⟨trivial, fun _ => HS.out _ hk2⟩
  clear hK K hS0
  try simp only [Act.put, List.setIfInBounds_toArray, List.set_cons_zero, List.set_cons_succ]
  refine readyL (rs := [8]) (by kernel_rfl) (by simp) ?_
  refine AllReadyL.cons rfl (fun K hK => ?_) AllReadyL.nil
  go_simp
  refine (HCS.out _ (HKx.out _ hk2) (HT1.out _ hk2)).mono ?_
  rintro e y8 ⟨rfl, hy8⟩
  have hk8 : Below Z.heap.size Z y8 := below_trans hk2 hy8
  refine hK.out _ _ ?_ (fun hS2 => ?_)
  · exact ⟨trivial, fun _ => HS.out _ hk8⟩
  clear hK K hS1
  try simp only [Act.put, List.setIfInBounds_toArray, List.set_cons_zero, List.set_cons_succ]
  refine readyL (rs := [9]) (by kernel_rfl) (by simp) ?_
  refine AllReadyL.cons rfl (fun K hK => ?_) AllReadyL.nil
  have qq := (hk8.block _ (lt_of_block HQ.out)).trans HQ.out
  have r0 : y8.cell? ⟨w.heap.size + 1, 0, none⟩ = some (.int .i64 0) := by rw [cell_of_block qq]; rfl
  have r1 : y8.cell? ⟨w.heap.size + 1, 1, none⟩ = some (.slice none 0 0) := by rw [cell_of_block qq]; rfl
  have rz := fun o => frozen_of_block (o := o) qq
  have rl := lt_of_block qq
  go_simp
  refine hK.out _ _ ?_ (fun hS3 => ?_)
  · exact ⟨trivial, fun _ => HSP.out y8 _ _ hk8⟩
  clear hK K hS2
  try simp only [Act.put, List.setIfInBounds_toArray, List.set_cons_zero, List.set_cons_succ]
  refine readyL (rs := [10]) (by kernel_rfl) (by simp) ?_
  refine AllReadyL.cons rfl (fun K hK => ?_) AllReadyL.nil
  go_simp
  refine hK.out _ _ ?_ (fun hS4 => ?_)
  · exact ⟨trivial, fun h => absurd (h.symm.trans (show _ = true by kernel_rfl)) (by decide)⟩
  clear hK K hS3
  try simp only [Act.put, List.setIfInBounds_toArray, List.set_cons_zero, List.set_cons_succ]
  refine doneL (by kernel_rfl) ?_ _
  have FIN := hid (MadeTO.stored (w := w) (P := w.heap.size + 1) (o := resM 13 ty [u]) (T := ty) HR1.out HR2.out (hat2.below hy8) ((hf2c.below hy8).mono (below_drew Z).size) (by omega) (by omega) (below_trans HB.out hk8))
  clear HS HSP HB HQ
  go_wp2_with fail
  exact bodyPost_ret (v := .tuple #[.agg #[.int .i64 k6, .slice a6 n6 c6], .bool V]) (by simp [results, Tryd.results115, go_sem, r0, r1]) rfl (by first | exact FIN.out | (rw [HRES.out]; exact FIN.out))
end Go.Proofs.YtffmpjcjmffdeaaDoor
