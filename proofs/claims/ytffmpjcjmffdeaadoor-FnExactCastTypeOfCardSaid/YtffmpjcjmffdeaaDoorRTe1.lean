/- The specification's l4Exact: sums, comparisons, choices, pairs, casts. -/
import Derived.Test.YtffmpjcjmffdeaaDoorRG13
import Derived.Test.YtffmpjcjmffdeaaDoorRTyE
import Derived.Test.YtffmpjcjmffdeaaDoorRG1
namespace Go.Proofs.YtffmpjcjmffdeaaDoor
open Go.RowKit

def ReX (K : Int) : Prop := ∀ (nm : ByteArray) (num : Int) (ty fr : Ty) (lb : Int) (ts : List Tm) (v : Value) (fe : List Nat) (us : List Ty) (s : Value) (fu : List Nat) (w : World),
  Tm.At w (.mk K nm num ty fr lb ts) v fe → SlAt w us s fu → kidsM K = (us.length : Int) → (∀ u ∈ us, vld u = true) → (K = 14 → vld ty = true ∧ vld fr = true) →
  Calls Tryd.prog 121 #[v, s] w (MadeTO w (resE K ty fr us))

/-- A type of two operands in memory: its cells and theirs. -/
theorem two_kids {w : World} {k kx : Int} {p r : Ty} {nx cx : Nat} {ax : Option Addr} {g : List Nat} (h : (Ty.mk k [p, r]).At w (.agg #[.int .i64 kx, .slice ax nx cx]) g) :
    kx = k ∧ nx = 2 ∧ 2 ≤ cx ∧ ∃ b o k0 n0 a0 c0 k1 n1 a1 c1 g0 g1, ax = some ⟨b, o, none⟩ ∧ b < w.heap.size ∧ w.cell? ⟨b, o, none⟩ = some (.int .i64 k0) ∧ w.cell? ⟨b, o + 1, none⟩ = some (.slice a0 n0 c0) ∧
      w.cell? ⟨b, o + 2, none⟩ = some (.int .i64 k1) ∧ w.cell? ⟨b, o + 2 + 1, none⟩ = some (.slice a1 n1 c1) ∧ p.At w (.agg #[.int .i64 k0, .slice a0 n0 c0]) g0 ∧ r.At w (.agg #[.int .i64 k1, .slice a1 n1 c1]) g1 := by
  obtain ⟨s', e, hs⟩ := Ty.at_mk.1 h
  simp only [Value.agg.injEq, Array.mk.injEq, List.cons.injEq, Value.int.injEq, true_and, and_true] at e
  obtain ⟨rfl, rfl⟩ := e
  obtain ⟨sa, sc, hss, hcap, -, hget⟩ := hs.openA
  simp only [Value.slice.injEq] at hss
  obtain ⟨rfl, rfl, rfl⟩ := hss
  obtain ⟨b, o, k0, n0, a0, c0, g0, rfl, hlt, e0, e1, h0, -⟩ := hget 0 (by simp)
  obtain ⟨b', o', k1, n1, a1, c1, g1, hp, -, e2, e3, h1, -⟩ := hget 1 (by simp)
  simp only [Option.some.injEq, Addr.mk.injEq, and_true] at hp
  obtain ⟨rfl, rfl⟩ := hp
  simp (config := { failIfUnchanged := false }) only [Nat.zero_mul, Nat.add_zero, Nat.one_mul, List.getElem_cons_zero, List.getElem_cons_succ] at e0 e1 e2 e3 h0 h1
  exact ⟨rfl, rfl, hcap, b, o, k0, n0, a0, c0, k1, n1, a1, c1, g0, g1, rfl, hlt, e0, e1, e2, e3, h0, h1⟩

set_option maxRecDepth 100000 in
set_option maxHeartbeats 4000000 in
theorem ex_7 : ReX 7 := by
  intro nm num ty fr lb ts v fe us s fu w hat hus hlen hvl hty
  obtain ⟨k1, n1, a1, c1, k2, n2, a2, c2, a3, c3, f1, f2, f3, rfl, hnm, ht1, ht2, rfl, hs3⟩ := hat.parts
  have HB := hid (show Below w.heap.size w ((w.alloc (Obj.cells #[.int .i64 7, .string nm, .int .i64 num, .int .i64 k1, .slice a1 n1 c1, .int .i64 k2, .slice a2 n2 c2, .int .i64 lb, .slice a3 ts.length c3] 35)).alloc (Obj.cells #[.int .i64 0, .slice none 0 0] 32)) from ((Below.refl _ _).alloc (Nat.le_refl _) _).alloc (by simp) _)
  have HSZ := hid (show ((w.alloc (Obj.cells #[.int .i64 7, .string nm, .int .i64 num, .int .i64 k1, .slice a1 n1 c1, .int .i64 k2, .slice a2 n2 c2, .int .i64 lb, .slice a3 ts.length c3] 35)).alloc (Obj.cells #[.int .i64 0, .slice none 0 0] 32)).heap.size = w.heap.size + 1 + 1 by simp)
  have HQ := hid (two_out (Below.refl _ ((w.alloc (Obj.cells #[.int .i64 7, .string nm, .int .i64 num, .int .i64 k1, .slice a1 n1 c1, .int .i64 k2, .slice a2 n2 c2, .int .i64 lb, .slice a3 ts.length c3] 35)).alloc (Obj.cells #[.int .i64 0, .slice none 0 0] 32)))).2
  obtain ⟨z0, z1, z2, z3, z4, z5, z6, z7, z8⟩ := cells9 (two_out (Below.refl _ ((w.alloc (Obj.cells #[.int .i64 7, .string nm, .int .i64 num, .int .i64 k1, .slice a1 n1 c1, .int .i64 k2, .slice a2 n2 c2, .int .i64 lb, .slice a3 ts.length c3] 35)).alloc (Obj.cells #[.int .i64 0, .slice none 0 0] 32)))).1
  obtain ⟨u, u2, rfl⟩ : ∃ a b, us = [a, b] := by
    have hl0 : us.length = 2 := by have : kidsM 7 = 2 := (by decide); omega
    match us, hl0 with
    | [a, b], _ => exact ⟨a, b, rfl⟩
  obtain ⟨sa, sc, hss, hcap, hmx, hget⟩ := hus.openA
  subst hss
  obtain ⟨bx, ox, kx, nx, ax, cx, gx, hpx, hltx, ex0, ex1, hkx, -⟩ := hget 0 (by simp)
  obtain ⟨bj, oj, kj, nj, aj, cj, gj, hpj, hltj, ej0, ej1, hkj, -⟩ := hget 1 (by simp)
  rw [hpx] at hpj
  simp only [Option.some.injEq, Addr.mk.injEq, and_true] at hpj
  obtain ⟨rfl, rfl⟩ := hpj
  subst hpx
  simp (config := { failIfUnchanged := false }) only [Nat.zero_mul, Nat.add_zero, Nat.one_mul, List.getElem_cons_zero, List.getElem_cons_succ] at ex0 ex1 hkx ej0 ej1 hkj
  replace ex0 := cell_keep ex0 HB.out
  replace ex1 := cell_keep ex1 HB.out
  have HVx := hid (hvl u (by simp))
  have HKx := hid (fun (W : World) (h : Below ((w.alloc (Obj.cells #[.int .i64 7, .string nm, .int .i64 num, .int .i64 k1, .slice a1 n1 c1, .int .i64 k2, .slice a2 n2 c2, .int .i64 lb, .slice a3 ts.length c3] 35)).alloc (Obj.cells #[.int .i64 0, .slice none 0 0] 32)).heap.size ((w.alloc (Obj.cells #[.int .i64 7, .string nm, .int .i64 num, .int .i64 k1, .slice a1 n1 c1, .int .i64 k2, .slice a2 n2 c2, .int .i64 lb, .slice a3 ts.length c3] 35)).alloc (Obj.cells #[.int .i64 0, .slice none 0 0] 32)) W) => hkx.below (below_trans HB.out h))
  replace ej0 := cell_keep ej0 HB.out
  replace ej1 := cell_keep ej1 HB.out
  have HVj := hid (hvl u2 (by simp))
  have HKj := hid (fun (W : World) (h : Below ((w.alloc (Obj.cells #[.int .i64 7, .string nm, .int .i64 num, .int .i64 k1, .slice a1 n1 c1, .int .i64 k2, .slice a2 n2 c2, .int .i64 lb, .slice a3 ts.length c3] 35)).alloc (Obj.cells #[.int .i64 0, .slice none 0 0] 32)).heap.size ((w.alloc (Obj.cells #[.int .i64 7, .string nm, .int .i64 num, .int .i64 k1, .slice a1 n1 c1, .int .i64 k2, .slice a2 n2 c2, .int .i64 lb, .slice a3 ts.length c3] 35)).alloc (Obj.cells #[.int .i64 0, .slice none 0 0] 32)) W) => hkj.below (below_trans HB.out h))
  have HT1 := hid (fun (W : World) (h : Below ((w.alloc (Obj.cells #[.int .i64 7, .string nm, .int .i64 num, .int .i64 k1, .slice a1 n1 c1, .int .i64 k2, .slice a2 n2 c2, .int .i64 lb, .slice a3 ts.length c3] 35)).alloc (Obj.cells #[.int .i64 0, .slice none 0 0] 32)).heap.size ((w.alloc (Obj.cells #[.int .i64 7, .string nm, .int .i64 num, .int .i64 k1, .slice a1 n1 c1, .int .i64 k2, .slice a2 n2 c2, .int .i64 lb, .slice a3 ts.length c3] 35)).alloc (Obj.cells #[.int .i64 0, .slice none 0 0] 32)) W) => ht1.below (below_trans HB.out h))
  have HT2 := hid (fun (W : World) (h : Below ((w.alloc (Obj.cells #[.int .i64 7, .string nm, .int .i64 num, .int .i64 k1, .slice a1 n1 c1, .int .i64 k2, .slice a2 n2 c2, .int .i64 lb, .slice a3 ts.length c3] 35)).alloc (Obj.cells #[.int .i64 0, .slice none 0 0] 32)).heap.size ((w.alloc (Obj.cells #[.int .i64 7, .string nm, .int .i64 num, .int .i64 k1, .slice a1 n1 c1, .int .i64 k2, .slice a2 n2 c2, .int .i64 lb, .slice a3 ts.length c3] 35)).alloc (Obj.cells #[.int .i64 0, .slice none 0 0] 32)) W) => ht2.below (below_trans HB.out h))
  have HTY := hid hty
  have HS := hid (fun (W : World) (h : Below ((w.alloc (Obj.cells #[.int .i64 7, .string nm, .int .i64 num, .int .i64 k1, .slice a1 n1 c1, .int .i64 k2, .slice a2 n2 c2, .int .i64 lb, .slice a3 ts.length c3] 35)).alloc (Obj.cells #[.int .i64 0, .slice none 0 0] 32)).heap.size ((w.alloc (Obj.cells #[.int .i64 7, .string nm, .int .i64 num, .int .i64 k1, .slice a1 n1 c1, .int .i64 k2, .slice a2 n2 c2, .int .i64 lb, .slice a3 ts.length c3] 35)).alloc (Obj.cells #[.int .i64 0, .slice none 0 0] 32)) W) => (show W.cell? ⟨bx, ox, none⟩ = some (.int .i64 kx) ∧ W.cell? ⟨bx, ox + 1, none⟩ = some (.slice ax nx cx) ∧ W.cell? ⟨bx, ox + 2, none⟩ = some (.int .i64 kj) ∧ W.cell? ⟨bx, ox + 2 + 1, none⟩ = some (.slice aj nj cj) from ⟨cell_keep ex0 h, cell_keep ex1 h, cell_keep ej0 h, cell_keep ej1 h⟩))
  have HSP := hid (fun (W : World) (x y : Value) (h : Below ((w.alloc (Obj.cells #[.int .i64 7, .string nm, .int .i64 num, .int .i64 k1, .slice a1 n1 c1, .int .i64 k2, .slice a2 n2 c2, .int .i64 lb, .slice a3 ts.length c3] 35)).alloc (Obj.cells #[.int .i64 0, .slice none 0 0] 32)).heap.size ((w.alloc (Obj.cells #[.int .i64 7, .string nm, .int .i64 num, .int .i64 k1, .slice a1 n1 c1, .int .i64 k2, .slice a2 n2 c2, .int .i64 lb, .slice a3 ts.length c3] 35)).alloc (Obj.cells #[.int .i64 0, .slice none 0 0] 32)) W) => (show ((W.setCell ⟨w.heap.size + 1, 0, none⟩ x).setCell ⟨w.heap.size + 1, 1, none⟩ y).cell? ⟨bx, ox, none⟩ = some (.int .i64 kx) ∧ ((W.setCell ⟨w.heap.size + 1, 0, none⟩ x).setCell ⟨w.heap.size + 1, 1, none⟩ y).cell? ⟨bx, ox + 1, none⟩ = some (.slice ax nx cx) ∧ ((W.setCell ⟨w.heap.size + 1, 0, none⟩ x).setCell ⟨w.heap.size + 1, 1, none⟩ y).cell? ⟨bx, ox + 2, none⟩ = some (.int .i64 kj) ∧ ((W.setCell ⟨w.heap.size + 1, 0, none⟩ x).setCell ⟨w.heap.size + 1, 1, none⟩ y).cell? ⟨bx, ox + 2 + 1, none⟩ = some (.slice aj nj cj) from ⟨two_keepS (cell_keep ex0 h) (by omega) _ _, two_keepS (cell_keep ex1 h) (by omega) _ _, two_keepS (cell_keep ej0 h) (by omega) _ _, two_keepS (cell_keep ej1 h) (by omega) _ _⟩))
  clear hat hus hlen hvl hs3 ht1 ht2 hget hcap hmx hty hkx hkj
  have HR1 := hid (show tyEq u tI = false → resE 7 ty fr [u, u2] = none from fun h => by simp [resE, nth, h])
  have HR2 := hid (show tyEq u tI = true → resE 7 ty fr [u, u2] = if tyEq u2 tI = true then some tI else none from fun h => by simp [resE, nth, h])
  go_enter Tryd.func121, Tryd.ntmps121
  go_wp2_with fail
  generalize ((w.alloc (Obj.cells #[.int .i64 7, .string nm, .int .i64 num, .int .i64 k1, .slice a1 n1 c1, .int .i64 k2, .slice a2 n2 c2, .int .i64 lb, .slice a3 ts.length c3] 35)).alloc (Obj.cells #[.int .i64 0, .slice none 0 0] 32)) = Z at *
  have hzS : w.heap.size + 1 < Z.heap.size := by rw [HSZ.out]; omega
  cases hc1 : tyEq u tI with
  | false =>
    have HC1 := hid hc1
    have HN := hid (HR1.out hc1)
    clear hc1 HR1 HR2
    refine regionL (s := 14) (S0 := (fun w' => w'.cell? ⟨bx, ox, none⟩ = some (.int .i64 kx) ∧ w'.cell? ⟨bx, ox + 1, none⟩ = some (.slice ax nx cx) ∧ w'.cell? ⟨bx, ox + 2, none⟩ = some (.int .i64 kj) ∧ w'.cell? ⟨bx, ox + 2 + 1, none⟩ = some (.slice aj nj cj))) (S1 := (fun _ => True)) (by kernel_rfl) (HS.out _ (below_drew Z)) (trivial) (fun hS0 => ?_)
    refine takeL0 (i := 1) (v := ?va71) rfl rfl (by kernel_rfl) (by kernel_rfl) (by kernel_rfl) (by decide) (by kernel_rfl) (by kernel_rfl) (fun _ _ _ h => h) (Or.inl ⟨by rfl, ?hya71⟩) (by assumption) ?_
    case hya71 => (intro w hSw; (try dsimp only at hSw); go_simp; (try with_reducible rfl))
    try simp only [Act.put, List.setIfInBounds_toArray, List.set_cons_zero, List.set_cons_succ]
    refine takeL0 (i := 2) (v := ?va72) rfl rfl (by kernel_rfl) (by kernel_rfl) (by kernel_rfl) (by decide) (by kernel_rfl) (by kernel_rfl) (fun _ _ _ h => h) (Or.inl ⟨by rfl, ?hya72⟩) (by assumption) ?_
    case hya72 => (intro w hSw; (try dsimp only at hSw); go_simp; (try with_reducible rfl))
    try simp only [Act.put, List.setIfInBounds_toArray, List.set_cons_zero, List.set_cons_succ]
    refine takeL0 (i := 3) (v := ?va73) rfl rfl (by kernel_rfl) (by kernel_rfl) (by kernel_rfl) (by decide) (by kernel_rfl) (by kernel_rfl) (fun _ _ _ h => h) (Or.inl ⟨by rfl, ?hya73⟩) (by assumption) ?_
    case hya73 => (intro w hSw; (try dsimp only at hSw); go_simp; (try with_reducible rfl))
    try simp only [Act.put, List.setIfInBounds_toArray, List.set_cons_zero, List.set_cons_succ]
    refine readyL (rs := [0]) (by kernel_rfl) (by simp) ?_
    refine AllReadyL.cons rfl (fun K hK => ?_) AllReadyL.nil
    go_simp
    refine (l3Int_any _).mono ?_
    rintro e y0 ⟨rfl, hy0⟩
    have hk0 : Below Z.heap.size Z y0 := below_trans (below_drew Z) hy0
    refine hK.out _ _ ?_ (fun hS1 => ?_)
    · exact ⟨trivial, fun _ => HS.out _ hk0⟩
    clear hK K hS0
    try simp only [Act.put, List.setIfInBounds_toArray, List.set_cons_zero, List.set_cons_succ]
    refine readyL (rs := [4]) (by kernel_rfl) (by simp) ?_
    refine AllReadyL.cons rfl (fun K hK => ?_) AllReadyL.nil
    go_simp
    refine (l3Int_any _).mono ?_
    rintro e y4 ⟨rfl, hy4⟩
    have hk4 : Below Z.heap.size Z y4 := below_trans hk0 hy4
    refine hK.out _ _ ?_ (fun hS2 => ?_)
    · exact ⟨trivial, fun _ => HS.out _ hk4⟩
    clear hK K hS1
    try simp only [Act.put, List.setIfInBounds_toArray, List.set_cons_zero, List.set_cons_succ]
    refine readyL (rs := [5]) (by kernel_rfl) (by simp) ?_
    refine AllReadyL.cons rfl (fun K hK => ?_) AllReadyL.nil
    go_simp
    refine (specTypeSame u tI _ _ _ _ _ (HKx.out _ hk4) (leaf_ty _ 2)).mono ?_
    rintro e y5 ⟨he, hy5⟩
    have hk5 : Below Z.heap.size Z y5 := below_trans hk4 hy5
    rw [HC1.out] at he
    subst he
    refine hK.out _ _ ?_ (fun hS3 => ?_)
    · exact ⟨trivial, fun _ => HS.out _ hk5⟩
    clear hK K hS2
    try simp only [Act.put, List.setIfInBounds_toArray, List.set_cons_zero, List.set_cons_succ]
    refine takeL0 (i := 6) (v := ?va74) rfl rfl (by kernel_rfl) (by kernel_rfl) (by kernel_rfl) (by decide) (by kernel_rfl) (by kernel_rfl) (fun _ _ _ h => h) (Or.inl ⟨by rfl, ?hya74⟩) (by assumption) ?_
    case hya74 => (intro w hSw; (try dsimp only at hSw); go_simp; (try with_reducible rfl))
    try simp only [Act.put, List.setIfInBounds_toArray, List.set_cons_zero, List.set_cons_succ]
    refine takeL0 (i := 7) (v := undef) rfl rfl (by kernel_rfl) (by kernel_rfl) (by kernel_rfl) (by decide) (by kernel_rfl) (by kernel_rfl) (fun _ _ _ h => h) (Or.inr ⟨by rfl, rfl⟩) (by assumption) ?_
    try simp only [Act.put, List.setIfInBounds_toArray, List.set_cons_zero, List.set_cons_succ]
    refine takeL0 (i := 8) (v := undef) rfl rfl (by kernel_rfl) (by kernel_rfl) (by kernel_rfl) (by decide) (by kernel_rfl) (by kernel_rfl) (fun _ _ _ h => h) (Or.inr ⟨by rfl, rfl⟩) (by assumption) ?_
    try simp only [Act.put, List.setIfInBounds_toArray, List.set_cons_zero, List.set_cons_succ]
    refine takeL0 (i := 9) (v := undef) rfl rfl (by kernel_rfl) (by kernel_rfl) (by kernel_rfl) (by decide) (by kernel_rfl) (by kernel_rfl) (fun _ _ _ h => h) (Or.inr ⟨by rfl, rfl⟩) (by assumption) ?_
    try simp only [Act.put, List.setIfInBounds_toArray, List.set_cons_zero, List.set_cons_succ]
    refine takeL0 (i := 10) (v := undef) rfl rfl (by kernel_rfl) (by kernel_rfl) (by kernel_rfl) (by decide) (by kernel_rfl) (by kernel_rfl) (fun _ _ _ h => h) (Or.inr ⟨by rfl, rfl⟩) (by assumption) ?_
    try simp only [Act.put, List.setIfInBounds_toArray, List.set_cons_zero, List.set_cons_succ]
    refine takeL0 (i := 11) (v := undef) rfl rfl (by kernel_rfl) (by kernel_rfl) (by kernel_rfl) (by decide) (by kernel_rfl) (by kernel_rfl) (fun _ _ _ h => h) (Or.inr ⟨by rfl, rfl⟩) (by assumption) ?_
    try simp only [Act.put, List.setIfInBounds_toArray, List.set_cons_zero, List.set_cons_succ]
    refine takeL0 (i := 12) (v := ?va710) rfl rfl (by kernel_rfl) (by kernel_rfl) (by kernel_rfl) (by decide) (by kernel_rfl) (by kernel_rfl) (fun _ _ _ h => h) (Or.inl ⟨by rfl, ?hya710⟩) (by assumption) ?_
    case hya710 => (intro w hSw; (try dsimp only at hSw); go_simp; (try with_reducible rfl))
    try simp only [Act.put, List.setIfInBounds_toArray, List.set_cons_zero, List.set_cons_succ]
    refine readyL (rs := [13]) (by kernel_rfl) (by simp) ?_
    refine AllReadyL.cons rfl (fun K hK => ?_) AllReadyL.nil
    have qq := (hk5.block _ (lt_of_block HQ.out)).trans HQ.out
    have r0 : y5.cell? ⟨w.heap.size + 1, 0, none⟩ = some (.int .i64 0) := by rw [cell_of_block qq]; rfl
    have r1 : y5.cell? ⟨w.heap.size + 1, 1, none⟩ = some (.slice none 0 0) := by rw [cell_of_block qq]; rfl
    have rz := fun o => frozen_of_block (o := o) qq
    have rl := lt_of_block qq
    go_simp
    refine hK.out _ _ ?_ (fun hS4 => ?_)
    · exact ⟨trivial, fun _ => HSP.out y5 _ _ hk5⟩
    clear hK K hS3
    try simp only [Act.put, List.setIfInBounds_toArray, List.set_cons_zero, List.set_cons_succ]
    refine readyL (rs := [14]) (by kernel_rfl) (by simp) ?_
    refine AllReadyL.cons rfl (fun K hK => ?_) AllReadyL.nil
    go_simp
    refine hK.out _ _ ?_ (fun hS5 => ?_)
    · exact ⟨trivial, fun h => absurd (h.symm.trans (show _ = true by kernel_rfl)) (by decide)⟩
    clear hK K hS4
    try simp only [Act.put, List.setIfInBounds_toArray, List.set_cons_zero, List.set_cons_succ]
    refine doneL (by kernel_rfl) ?_ _
    have FIN := hid (MadeTO.stored (w := w) (P := w.heap.size + 1) (o := resE 7 ty fr [u, u2]) (T := tI) (fun u h => by rw [HN.out] at h; cases h) (by rw [HN.out] <;> rfl) (leaf_ty _ 2) (Fresh.nil _ _) (by omega) (by omega) (below_trans HB.out hk5))
    clear HS HSP HB HQ
    go_wp2_with fail
    exact bodyPost_ret (v := .tuple #[.agg #[.int .i64 2, .slice none 0 0], .bool false]) (by simp [results, Tryd.results121, go_sem, r0, r1]) rfl (by first | exact FIN.out | (rw [HRES.out]; exact FIN.out))
  | true =>
    have HC1 := hid hc1
    have HN := hid (HR2.out hc1)
    clear hc1 HR1 HR2
    cases hc2 : tyEq u2 tI with
    | false =>
      have HC2 := hid hc2
      rw [hc2] at HN
      clear hc2
      refine regionL (s := 14) (S0 := (fun w' => w'.cell? ⟨bx, ox, none⟩ = some (.int .i64 kx) ∧ w'.cell? ⟨bx, ox + 1, none⟩ = some (.slice ax nx cx) ∧ w'.cell? ⟨bx, ox + 2, none⟩ = some (.int .i64 kj) ∧ w'.cell? ⟨bx, ox + 2 + 1, none⟩ = some (.slice aj nj cj))) (S1 := (fun _ => True)) (by kernel_rfl) (HS.out _ (below_drew Z)) (trivial) (fun hS0 => ?_)
      refine takeL0 (i := 1) (v := ?vb71) rfl rfl (by kernel_rfl) (by kernel_rfl) (by kernel_rfl) (by decide) (by kernel_rfl) (by kernel_rfl) (fun _ _ _ h => h) (Or.inl ⟨by rfl, ?hyb71⟩) (by assumption) ?_
      case hyb71 => (intro w hSw; (try dsimp only at hSw); go_simp; (try with_reducible rfl))
      try simp only [Act.put, List.setIfInBounds_toArray, List.set_cons_zero, List.set_cons_succ]
      refine takeL0 (i := 2) (v := ?vb72) rfl rfl (by kernel_rfl) (by kernel_rfl) (by kernel_rfl) (by decide) (by kernel_rfl) (by kernel_rfl) (fun _ _ _ h => h) (Or.inl ⟨by rfl, ?hyb72⟩) (by assumption) ?_
      case hyb72 => (intro w hSw; (try dsimp only at hSw); go_simp; (try with_reducible rfl))
      try simp only [Act.put, List.setIfInBounds_toArray, List.set_cons_zero, List.set_cons_succ]
      refine takeL0 (i := 3) (v := ?vb73) rfl rfl (by kernel_rfl) (by kernel_rfl) (by kernel_rfl) (by decide) (by kernel_rfl) (by kernel_rfl) (fun _ _ _ h => h) (Or.inl ⟨by rfl, ?hyb73⟩) (by assumption) ?_
      case hyb73 => (intro w hSw; (try dsimp only at hSw); go_simp; (try with_reducible rfl))
      try simp only [Act.put, List.setIfInBounds_toArray, List.set_cons_zero, List.set_cons_succ]
      refine readyL (rs := [0]) (by kernel_rfl) (by simp) ?_
      refine AllReadyL.cons rfl (fun K hK => ?_) AllReadyL.nil
      go_simp
      refine (l3Int_any _).mono ?_
      rintro e y0 ⟨rfl, hy0⟩
      have hk0 : Below Z.heap.size Z y0 := below_trans (below_drew Z) hy0
      refine hK.out _ _ ?_ (fun hS1 => ?_)
      · exact ⟨trivial, fun _ => HS.out _ hk0⟩
      clear hK K hS0
      try simp only [Act.put, List.setIfInBounds_toArray, List.set_cons_zero, List.set_cons_succ]
      refine readyL (rs := [4]) (by kernel_rfl) (by simp) ?_
      refine AllReadyL.cons rfl (fun K hK => ?_) AllReadyL.nil
      go_simp
      refine (l3Int_any _).mono ?_
      rintro e y4 ⟨rfl, hy4⟩
      have hk4 : Below Z.heap.size Z y4 := below_trans hk0 hy4
      refine hK.out _ _ ?_ (fun hS2 => ?_)
      · exact ⟨trivial, fun _ => HS.out _ hk4⟩
      clear hK K hS1
      try simp only [Act.put, List.setIfInBounds_toArray, List.set_cons_zero, List.set_cons_succ]
      refine readyL (rs := [5]) (by kernel_rfl) (by simp) ?_
      refine AllReadyL.cons rfl (fun K hK => ?_) AllReadyL.nil
      go_simp
      refine (specTypeSame u tI _ _ _ _ _ (HKx.out _ hk4) (leaf_ty _ 2)).mono ?_
      rintro e y5 ⟨he, hy5⟩
      have hk5 : Below Z.heap.size Z y5 := below_trans hk4 hy5
      rw [HC1.out] at he
      subst he
      refine hK.out _ _ ?_ (fun hS3 => ?_)
      · exact ⟨trivial, fun _ => HS.out _ hk5⟩
      clear hK K hS2
      try simp only [Act.put, List.setIfInBounds_toArray, List.set_cons_zero, List.set_cons_succ]
      refine takeL0 (i := 6) (v := ?vb74) rfl rfl (by kernel_rfl) (by kernel_rfl) (by kernel_rfl) (by decide) (by kernel_rfl) (by kernel_rfl) (fun _ _ _ h => h) (Or.inl ⟨by rfl, ?hyb74⟩) (by assumption) ?_
      case hyb74 => (intro w hSw; (try dsimp only at hSw); go_simp; (try with_reducible rfl))
      try simp only [Act.put, List.setIfInBounds_toArray, List.set_cons_zero, List.set_cons_succ]
      refine takeL0 (i := 7) (v := ?vb75) rfl rfl (by kernel_rfl) (by kernel_rfl) (by kernel_rfl) (by decide) (by kernel_rfl) (by kernel_rfl) (fun _ _ _ h => h) (Or.inl ⟨by rfl, ?hyb75⟩) (by assumption) ?_
      case hyb75 => (intro w hSw; (try dsimp only at hSw); go_simp; (try with_reducible rfl))
      try simp only [Act.put, List.setIfInBounds_toArray, List.set_cons_zero, List.set_cons_succ]
      refine takeL0 (i := 8) (v := ?vb76) rfl rfl (by kernel_rfl) (by kernel_rfl) (by kernel_rfl) (by decide) (by kernel_rfl) (by kernel_rfl) (fun _ _ _ h => h) (Or.inl ⟨by rfl, ?hyb76⟩) (by assumption) ?_
      case hyb76 => (intro w hSw; (try dsimp only at hSw); go_simp; (try with_reducible rfl))
      try simp only [Act.put, List.setIfInBounds_toArray, List.set_cons_zero, List.set_cons_succ]
      refine takeL0 (i := 9) (v := ?vb77) rfl rfl (by kernel_rfl) (by kernel_rfl) (by kernel_rfl) (by decide) (by kernel_rfl) (by kernel_rfl) (fun _ _ _ h => h) (Or.inl ⟨by rfl, ?hyb77⟩) (by assumption) ?_
      case hyb77 => (intro w hSw; (try dsimp only at hSw); go_simp; (try with_reducible rfl))
      try simp only [Act.put, List.setIfInBounds_toArray, List.set_cons_zero, List.set_cons_succ]
      refine readyL (rs := [10]) (by kernel_rfl) (by simp) ?_
      refine AllReadyL.cons rfl (fun K hK => ?_) AllReadyL.nil
      go_simp
      refine (l3Int_any _).mono ?_
      rintro e y10 ⟨rfl, hy10⟩
      have hk10 : Below Z.heap.size Z y10 := below_trans hk5 hy10
      refine hK.out _ _ ?_ (fun hS4 => ?_)
      · exact ⟨trivial, fun _ => HS.out _ hk10⟩
      clear hK K hS3
      try simp only [Act.put, List.setIfInBounds_toArray, List.set_cons_zero, List.set_cons_succ]
      refine readyL (rs := [11]) (by kernel_rfl) (by simp) ?_
      refine AllReadyL.cons rfl (fun K hK => ?_) AllReadyL.nil
      go_simp
      refine (specTypeSame u2 tI _ _ _ _ _ (HKj.out _ hk10) (leaf_ty _ 2)).mono ?_
      rintro e y11 ⟨he, hy11⟩
      have hk11 : Below Z.heap.size Z y11 := below_trans hk10 hy11
      rw [HC2.out] at he
      subst he
      refine hK.out _ _ ?_ (fun hS5 => ?_)
      · exact ⟨trivial, fun _ => HS.out _ hk11⟩
      clear hK K hS4
      try simp only [Act.put, List.setIfInBounds_toArray, List.set_cons_zero, List.set_cons_succ]
      refine takeL0 (i := 12) (v := ?vb78) rfl rfl (by kernel_rfl) (by kernel_rfl) (by kernel_rfl) (by decide) (by kernel_rfl) (by kernel_rfl) (fun _ _ _ h => h) (Or.inl ⟨by rfl, ?hyb78⟩) (by assumption) ?_
      case hyb78 => (intro w hSw; (try dsimp only at hSw); go_simp; (try with_reducible rfl))
      try simp only [Act.put, List.setIfInBounds_toArray, List.set_cons_zero, List.set_cons_succ]
      refine readyL (rs := [13]) (by kernel_rfl) (by simp) ?_
      refine AllReadyL.cons rfl (fun K hK => ?_) AllReadyL.nil
      have qq := (hk11.block _ (lt_of_block HQ.out)).trans HQ.out
      have r0 : y11.cell? ⟨w.heap.size + 1, 0, none⟩ = some (.int .i64 0) := by rw [cell_of_block qq]; rfl
      have r1 : y11.cell? ⟨w.heap.size + 1, 1, none⟩ = some (.slice none 0 0) := by rw [cell_of_block qq]; rfl
      have rz := fun o => frozen_of_block (o := o) qq
      have rl := lt_of_block qq
      go_simp
      refine hK.out _ _ ?_ (fun hS6 => ?_)
      · exact ⟨trivial, fun _ => HSP.out y11 _ _ hk11⟩
      clear hK K hS5
      try simp only [Act.put, List.setIfInBounds_toArray, List.set_cons_zero, List.set_cons_succ]
      refine readyL (rs := [14]) (by kernel_rfl) (by simp) ?_
      refine AllReadyL.cons rfl (fun K hK => ?_) AllReadyL.nil
      go_simp
      refine hK.out _ _ ?_ (fun hS7 => ?_)
      · exact ⟨trivial, fun h => absurd (h.symm.trans (show _ = true by kernel_rfl)) (by decide)⟩
      clear hK K hS6
      try simp only [Act.put, List.setIfInBounds_toArray, List.set_cons_zero, List.set_cons_succ]
      refine doneL (by kernel_rfl) ?_ _
      have FIN := hid (MadeTO.stored (w := w) (P := w.heap.size + 1) (o := resE 7 ty fr [u, u2]) (T := tI) (fun u h => by rw [HN.out] at h; cases h) (by rw [HN.out] <;> rfl) (leaf_ty _ 2) (Fresh.nil _ _) (by omega) (by omega) (below_trans HB.out hk11))
      clear HS HSP HB HQ
      go_wp2_with fail
      exact bodyPost_ret (v := .tuple #[.agg #[.int .i64 2, .slice none 0 0], .bool false]) (by simp [results, Tryd.results121, go_sem, r0, r1]) rfl (by first | exact FIN.out | (rw [HRES.out]; exact FIN.out))
    | true =>
      have HC2 := hid hc2
      rw [hc2] at HN
      clear hc2
      refine regionL (s := 14) (S0 := (fun w' => w'.cell? ⟨bx, ox, none⟩ = some (.int .i64 kx) ∧ w'.cell? ⟨bx, ox + 1, none⟩ = some (.slice ax nx cx) ∧ w'.cell? ⟨bx, ox + 2, none⟩ = some (.int .i64 kj) ∧ w'.cell? ⟨bx, ox + 2 + 1, none⟩ = some (.slice aj nj cj))) (S1 := (fun _ => True)) (by kernel_rfl) (HS.out _ (below_drew Z)) (trivial) (fun hS0 => ?_)
      refine takeL0 (i := 1) (v := ?vc71) rfl rfl (by kernel_rfl) (by kernel_rfl) (by kernel_rfl) (by decide) (by kernel_rfl) (by kernel_rfl) (fun _ _ _ h => h) (Or.inl ⟨by rfl, ?hyc71⟩) (by assumption) ?_
      case hyc71 => (intro w hSw; (try dsimp only at hSw); go_simp; (try with_reducible rfl))
      try simp only [Act.put, List.setIfInBounds_toArray, List.set_cons_zero, List.set_cons_succ]
      refine takeL0 (i := 2) (v := ?vc72) rfl rfl (by kernel_rfl) (by kernel_rfl) (by kernel_rfl) (by decide) (by kernel_rfl) (by kernel_rfl) (fun _ _ _ h => h) (Or.inl ⟨by rfl, ?hyc72⟩) (by assumption) ?_
      case hyc72 => (intro w hSw; (try dsimp only at hSw); go_simp; (try with_reducible rfl))
      try simp only [Act.put, List.setIfInBounds_toArray, List.set_cons_zero, List.set_cons_succ]
      refine takeL0 (i := 3) (v := ?vc73) rfl rfl (by kernel_rfl) (by kernel_rfl) (by kernel_rfl) (by decide) (by kernel_rfl) (by kernel_rfl) (fun _ _ _ h => h) (Or.inl ⟨by rfl, ?hyc73⟩) (by assumption) ?_
      case hyc73 => (intro w hSw; (try dsimp only at hSw); go_simp; (try with_reducible rfl))
      try simp only [Act.put, List.setIfInBounds_toArray, List.set_cons_zero, List.set_cons_succ]
      refine readyL (rs := [0]) (by kernel_rfl) (by simp) ?_
      refine AllReadyL.cons rfl (fun K hK => ?_) AllReadyL.nil
      go_simp
      refine (l3Int_any _).mono ?_
      rintro e y0 ⟨rfl, hy0⟩
      have hk0 : Below Z.heap.size Z y0 := below_trans (below_drew Z) hy0
      refine hK.out _ _ ?_ (fun hS1 => ?_)
      · exact ⟨trivial, fun _ => HS.out _ hk0⟩
      clear hK K hS0
      try simp only [Act.put, List.setIfInBounds_toArray, List.set_cons_zero, List.set_cons_succ]
      refine readyL (rs := [4]) (by kernel_rfl) (by simp) ?_
      refine AllReadyL.cons rfl (fun K hK => ?_) AllReadyL.nil
      go_simp
      refine (l3Int_any _).mono ?_
      rintro e y4 ⟨rfl, hy4⟩
      have hk4 : Below Z.heap.size Z y4 := below_trans hk0 hy4
      refine hK.out _ _ ?_ (fun hS2 => ?_)
      · exact ⟨trivial, fun _ => HS.out _ hk4⟩
      clear hK K hS1
      try simp only [Act.put, List.setIfInBounds_toArray, List.set_cons_zero, List.set_cons_succ]
      refine readyL (rs := [5]) (by kernel_rfl) (by simp) ?_
      refine AllReadyL.cons rfl (fun K hK => ?_) AllReadyL.nil
      go_simp
      refine (specTypeSame u tI _ _ _ _ _ (HKx.out _ hk4) (leaf_ty _ 2)).mono ?_
      rintro e y5 ⟨he, hy5⟩
      have hk5 : Below Z.heap.size Z y5 := below_trans hk4 hy5
      rw [HC1.out] at he
      subst he
      refine hK.out _ _ ?_ (fun hS3 => ?_)
      · exact ⟨trivial, fun _ => HS.out _ hk5⟩
      clear hK K hS2
      try simp only [Act.put, List.setIfInBounds_toArray, List.set_cons_zero, List.set_cons_succ]
      refine takeL0 (i := 6) (v := ?vc74) rfl rfl (by kernel_rfl) (by kernel_rfl) (by kernel_rfl) (by decide) (by kernel_rfl) (by kernel_rfl) (fun _ _ _ h => h) (Or.inl ⟨by rfl, ?hyc74⟩) (by assumption) ?_
      case hyc74 => (intro w hSw; (try dsimp only at hSw); go_simp; (try with_reducible rfl))
      try simp only [Act.put, List.setIfInBounds_toArray, List.set_cons_zero, List.set_cons_succ]
      refine takeL0 (i := 7) (v := ?vc75) rfl rfl (by kernel_rfl) (by kernel_rfl) (by kernel_rfl) (by decide) (by kernel_rfl) (by kernel_rfl) (fun _ _ _ h => h) (Or.inl ⟨by rfl, ?hyc75⟩) (by assumption) ?_
      case hyc75 => (intro w hSw; (try dsimp only at hSw); go_simp; (try with_reducible rfl))
      try simp only [Act.put, List.setIfInBounds_toArray, List.set_cons_zero, List.set_cons_succ]
      refine takeL0 (i := 8) (v := ?vc76) rfl rfl (by kernel_rfl) (by kernel_rfl) (by kernel_rfl) (by decide) (by kernel_rfl) (by kernel_rfl) (fun _ _ _ h => h) (Or.inl ⟨by rfl, ?hyc76⟩) (by assumption) ?_
      case hyc76 => (intro w hSw; (try dsimp only at hSw); go_simp; (try with_reducible rfl))
      try simp only [Act.put, List.setIfInBounds_toArray, List.set_cons_zero, List.set_cons_succ]
      refine takeL0 (i := 9) (v := ?vc77) rfl rfl (by kernel_rfl) (by kernel_rfl) (by kernel_rfl) (by decide) (by kernel_rfl) (by kernel_rfl) (fun _ _ _ h => h) (Or.inl ⟨by rfl, ?hyc77⟩) (by assumption) ?_
      case hyc77 => (intro w hSw; (try dsimp only at hSw); go_simp; (try with_reducible rfl))
      try simp only [Act.put, List.setIfInBounds_toArray, List.set_cons_zero, List.set_cons_succ]
      refine readyL (rs := [10]) (by kernel_rfl) (by simp) ?_
      refine AllReadyL.cons rfl (fun K hK => ?_) AllReadyL.nil
      go_simp
      refine (l3Int_any _).mono ?_
      rintro e y10 ⟨rfl, hy10⟩
      have hk10 : Below Z.heap.size Z y10 := below_trans hk5 hy10
      refine hK.out _ _ ?_ (fun hS4 => ?_)
      · exact ⟨trivial, fun _ => HS.out _ hk10⟩
      clear hK K hS3
      try simp only [Act.put, List.setIfInBounds_toArray, List.set_cons_zero, List.set_cons_succ]
      refine readyL (rs := [11]) (by kernel_rfl) (by simp) ?_
      refine AllReadyL.cons rfl (fun K hK => ?_) AllReadyL.nil
      go_simp
      refine (specTypeSame u2 tI _ _ _ _ _ (HKj.out _ hk10) (leaf_ty _ 2)).mono ?_
      rintro e y11 ⟨he, hy11⟩
      have hk11 : Below Z.heap.size Z y11 := below_trans hk10 hy11
      rw [HC2.out] at he
      subst he
      refine hK.out _ _ ?_ (fun hS5 => ?_)
      · exact ⟨trivial, fun _ => HS.out _ hk11⟩
      clear hK K hS4
      try simp only [Act.put, List.setIfInBounds_toArray, List.set_cons_zero, List.set_cons_succ]
      refine takeL0 (i := 12) (v := ?vc78) rfl rfl (by kernel_rfl) (by kernel_rfl) (by kernel_rfl) (by decide) (by kernel_rfl) (by kernel_rfl) (fun _ _ _ h => h) (Or.inl ⟨by rfl, ?hyc78⟩) (by assumption) ?_
      case hyc78 => (intro w hSw; (try dsimp only at hSw); go_simp; (try with_reducible rfl))
      try simp only [Act.put, List.setIfInBounds_toArray, List.set_cons_zero, List.set_cons_succ]
      refine readyL (rs := [13]) (by kernel_rfl) (by simp) ?_
      refine AllReadyL.cons rfl (fun K hK => ?_) AllReadyL.nil
      have qq := (hk11.block _ (lt_of_block HQ.out)).trans HQ.out
      have r0 : y11.cell? ⟨w.heap.size + 1, 0, none⟩ = some (.int .i64 0) := by rw [cell_of_block qq]; rfl
      have r1 : y11.cell? ⟨w.heap.size + 1, 1, none⟩ = some (.slice none 0 0) := by rw [cell_of_block qq]; rfl
      have rz := fun o => frozen_of_block (o := o) qq
      have rl := lt_of_block qq
      go_simp
      refine hK.out _ _ ?_ (fun hS6 => ?_)
      · exact ⟨trivial, fun _ => HSP.out y11 _ _ hk11⟩
      clear hK K hS5
      try simp only [Act.put, List.setIfInBounds_toArray, List.set_cons_zero, List.set_cons_succ]
      refine readyL (rs := [14]) (by kernel_rfl) (by simp) ?_
      refine AllReadyL.cons rfl (fun K hK => ?_) AllReadyL.nil
      go_simp
      refine hK.out _ _ ?_ (fun hS7 => ?_)
      · exact ⟨trivial, fun h => absurd (h.symm.trans (show _ = true by kernel_rfl)) (by decide)⟩
      clear hK K hS6
      try simp only [Act.put, List.setIfInBounds_toArray, List.set_cons_zero, List.set_cons_succ]
      refine doneL (by kernel_rfl) ?_ _
      have FIN := hid (MadeTO.stored (w := w) (P := w.heap.size + 1) (o := resE 7 ty fr [u, u2]) (T := tI) (fun u h => by rw [HN.out] at h; cases h; rfl) (by rw [HN.out] <;> rfl) (leaf_ty _ 2) (Fresh.nil _ _) (by omega) (by omega) (below_trans HB.out hk11))
      clear HS HSP HB HQ
      go_wp2_with fail
      exact bodyPost_ret (v := .tuple #[.agg #[.int .i64 2, .slice none 0 0], .bool true]) (by simp [results, Tryd.results121, go_sem, r0, r1]) rfl (by first | exact FIN.out | (rw [HRES.out]; exact FIN.out))

set_option maxRecDepth 100000 in
set_option maxHeartbeats 4000000 in
theorem ex_8 : ReX 8 := by
  intro nm num ty fr lb ts v fe us s fu w hat hus hlen hvl hty
  obtain ⟨k1, n1, a1, c1, k2, n2, a2, c2, a3, c3, f1, f2, f3, rfl, hnm, ht1, ht2, rfl, hs3⟩ := hat.parts
  have HB := hid (show Below w.heap.size w ((w.alloc (Obj.cells #[.int .i64 8, .string nm, .int .i64 num, .int .i64 k1, .slice a1 n1 c1, .int .i64 k2, .slice a2 n2 c2, .int .i64 lb, .slice a3 ts.length c3] 35)).alloc (Obj.cells #[.int .i64 0, .slice none 0 0] 32)) from ((Below.refl _ _).alloc (Nat.le_refl _) _).alloc (by simp) _)
  have HSZ := hid (show ((w.alloc (Obj.cells #[.int .i64 8, .string nm, .int .i64 num, .int .i64 k1, .slice a1 n1 c1, .int .i64 k2, .slice a2 n2 c2, .int .i64 lb, .slice a3 ts.length c3] 35)).alloc (Obj.cells #[.int .i64 0, .slice none 0 0] 32)).heap.size = w.heap.size + 1 + 1 by simp)
  have HQ := hid (two_out (Below.refl _ ((w.alloc (Obj.cells #[.int .i64 8, .string nm, .int .i64 num, .int .i64 k1, .slice a1 n1 c1, .int .i64 k2, .slice a2 n2 c2, .int .i64 lb, .slice a3 ts.length c3] 35)).alloc (Obj.cells #[.int .i64 0, .slice none 0 0] 32)))).2
  obtain ⟨z0, z1, z2, z3, z4, z5, z6, z7, z8⟩ := cells9 (two_out (Below.refl _ ((w.alloc (Obj.cells #[.int .i64 8, .string nm, .int .i64 num, .int .i64 k1, .slice a1 n1 c1, .int .i64 k2, .slice a2 n2 c2, .int .i64 lb, .slice a3 ts.length c3] 35)).alloc (Obj.cells #[.int .i64 0, .slice none 0 0] 32)))).1
  obtain ⟨u, u2, rfl⟩ : ∃ a b, us = [a, b] := by
    have hl0 : us.length = 2 := by have : kidsM 8 = 2 := (by decide); omega
    match us, hl0 with
    | [a, b], _ => exact ⟨a, b, rfl⟩
  obtain ⟨sa, sc, hss, hcap, hmx, hget⟩ := hus.openA
  subst hss
  obtain ⟨bx, ox, kx, nx, ax, cx, gx, hpx, hltx, ex0, ex1, hkx, -⟩ := hget 0 (by simp)
  obtain ⟨bj, oj, kj, nj, aj, cj, gj, hpj, hltj, ej0, ej1, hkj, -⟩ := hget 1 (by simp)
  rw [hpx] at hpj
  simp only [Option.some.injEq, Addr.mk.injEq, and_true] at hpj
  obtain ⟨rfl, rfl⟩ := hpj
  subst hpx
  simp (config := { failIfUnchanged := false }) only [Nat.zero_mul, Nat.add_zero, Nat.one_mul, List.getElem_cons_zero, List.getElem_cons_succ] at ex0 ex1 hkx ej0 ej1 hkj
  replace ex0 := cell_keep ex0 HB.out
  replace ex1 := cell_keep ex1 HB.out
  have HVx := hid (hvl u (by simp))
  have HKx := hid (fun (W : World) (h : Below ((w.alloc (Obj.cells #[.int .i64 8, .string nm, .int .i64 num, .int .i64 k1, .slice a1 n1 c1, .int .i64 k2, .slice a2 n2 c2, .int .i64 lb, .slice a3 ts.length c3] 35)).alloc (Obj.cells #[.int .i64 0, .slice none 0 0] 32)).heap.size ((w.alloc (Obj.cells #[.int .i64 8, .string nm, .int .i64 num, .int .i64 k1, .slice a1 n1 c1, .int .i64 k2, .slice a2 n2 c2, .int .i64 lb, .slice a3 ts.length c3] 35)).alloc (Obj.cells #[.int .i64 0, .slice none 0 0] 32)) W) => hkx.below (below_trans HB.out h))
  replace ej0 := cell_keep ej0 HB.out
  replace ej1 := cell_keep ej1 HB.out
  have HVj := hid (hvl u2 (by simp))
  have HKj := hid (fun (W : World) (h : Below ((w.alloc (Obj.cells #[.int .i64 8, .string nm, .int .i64 num, .int .i64 k1, .slice a1 n1 c1, .int .i64 k2, .slice a2 n2 c2, .int .i64 lb, .slice a3 ts.length c3] 35)).alloc (Obj.cells #[.int .i64 0, .slice none 0 0] 32)).heap.size ((w.alloc (Obj.cells #[.int .i64 8, .string nm, .int .i64 num, .int .i64 k1, .slice a1 n1 c1, .int .i64 k2, .slice a2 n2 c2, .int .i64 lb, .slice a3 ts.length c3] 35)).alloc (Obj.cells #[.int .i64 0, .slice none 0 0] 32)) W) => hkj.below (below_trans HB.out h))
  have HT1 := hid (fun (W : World) (h : Below ((w.alloc (Obj.cells #[.int .i64 8, .string nm, .int .i64 num, .int .i64 k1, .slice a1 n1 c1, .int .i64 k2, .slice a2 n2 c2, .int .i64 lb, .slice a3 ts.length c3] 35)).alloc (Obj.cells #[.int .i64 0, .slice none 0 0] 32)).heap.size ((w.alloc (Obj.cells #[.int .i64 8, .string nm, .int .i64 num, .int .i64 k1, .slice a1 n1 c1, .int .i64 k2, .slice a2 n2 c2, .int .i64 lb, .slice a3 ts.length c3] 35)).alloc (Obj.cells #[.int .i64 0, .slice none 0 0] 32)) W) => ht1.below (below_trans HB.out h))
  have HT2 := hid (fun (W : World) (h : Below ((w.alloc (Obj.cells #[.int .i64 8, .string nm, .int .i64 num, .int .i64 k1, .slice a1 n1 c1, .int .i64 k2, .slice a2 n2 c2, .int .i64 lb, .slice a3 ts.length c3] 35)).alloc (Obj.cells #[.int .i64 0, .slice none 0 0] 32)).heap.size ((w.alloc (Obj.cells #[.int .i64 8, .string nm, .int .i64 num, .int .i64 k1, .slice a1 n1 c1, .int .i64 k2, .slice a2 n2 c2, .int .i64 lb, .slice a3 ts.length c3] 35)).alloc (Obj.cells #[.int .i64 0, .slice none 0 0] 32)) W) => ht2.below (below_trans HB.out h))
  have HTY := hid hty
  have HS := hid (fun (W : World) (h : Below ((w.alloc (Obj.cells #[.int .i64 8, .string nm, .int .i64 num, .int .i64 k1, .slice a1 n1 c1, .int .i64 k2, .slice a2 n2 c2, .int .i64 lb, .slice a3 ts.length c3] 35)).alloc (Obj.cells #[.int .i64 0, .slice none 0 0] 32)).heap.size ((w.alloc (Obj.cells #[.int .i64 8, .string nm, .int .i64 num, .int .i64 k1, .slice a1 n1 c1, .int .i64 k2, .slice a2 n2 c2, .int .i64 lb, .slice a3 ts.length c3] 35)).alloc (Obj.cells #[.int .i64 0, .slice none 0 0] 32)) W) => (show W.cell? ⟨bx, ox, none⟩ = some (.int .i64 kx) ∧ W.cell? ⟨bx, ox + 1, none⟩ = some (.slice ax nx cx) ∧ W.cell? ⟨bx, ox + 2, none⟩ = some (.int .i64 kj) ∧ W.cell? ⟨bx, ox + 2 + 1, none⟩ = some (.slice aj nj cj) from ⟨cell_keep ex0 h, cell_keep ex1 h, cell_keep ej0 h, cell_keep ej1 h⟩))
  have HSP := hid (fun (W : World) (x y : Value) (h : Below ((w.alloc (Obj.cells #[.int .i64 8, .string nm, .int .i64 num, .int .i64 k1, .slice a1 n1 c1, .int .i64 k2, .slice a2 n2 c2, .int .i64 lb, .slice a3 ts.length c3] 35)).alloc (Obj.cells #[.int .i64 0, .slice none 0 0] 32)).heap.size ((w.alloc (Obj.cells #[.int .i64 8, .string nm, .int .i64 num, .int .i64 k1, .slice a1 n1 c1, .int .i64 k2, .slice a2 n2 c2, .int .i64 lb, .slice a3 ts.length c3] 35)).alloc (Obj.cells #[.int .i64 0, .slice none 0 0] 32)) W) => (show ((W.setCell ⟨w.heap.size + 1, 0, none⟩ x).setCell ⟨w.heap.size + 1, 1, none⟩ y).cell? ⟨bx, ox, none⟩ = some (.int .i64 kx) ∧ ((W.setCell ⟨w.heap.size + 1, 0, none⟩ x).setCell ⟨w.heap.size + 1, 1, none⟩ y).cell? ⟨bx, ox + 1, none⟩ = some (.slice ax nx cx) ∧ ((W.setCell ⟨w.heap.size + 1, 0, none⟩ x).setCell ⟨w.heap.size + 1, 1, none⟩ y).cell? ⟨bx, ox + 2, none⟩ = some (.int .i64 kj) ∧ ((W.setCell ⟨w.heap.size + 1, 0, none⟩ x).setCell ⟨w.heap.size + 1, 1, none⟩ y).cell? ⟨bx, ox + 2 + 1, none⟩ = some (.slice aj nj cj) from ⟨two_keepS (cell_keep ex0 h) (by omega) _ _, two_keepS (cell_keep ex1 h) (by omega) _ _, two_keepS (cell_keep ej0 h) (by omega) _ _, two_keepS (cell_keep ej1 h) (by omega) _ _⟩))
  clear hat hus hlen hvl hs3 ht1 ht2 hget hcap hmx hty hkx hkj
  have HR1 := hid (show tyEq u tI = false → resE 8 ty fr [u, u2] = none from fun h => by simp [resE, nth, h])
  have HR2 := hid (show tyEq u tI = true → resE 8 ty fr [u, u2] = if tyEq u2 tI = true then some tB else none from fun h => by simp [resE, nth, h])
  go_enter Tryd.func121, Tryd.ntmps121
  go_wp2_with fail
  generalize ((w.alloc (Obj.cells #[.int .i64 8, .string nm, .int .i64 num, .int .i64 k1, .slice a1 n1 c1, .int .i64 k2, .slice a2 n2 c2, .int .i64 lb, .slice a3 ts.length c3] 35)).alloc (Obj.cells #[.int .i64 0, .slice none 0 0] 32)) = Z at *
  have hzS : w.heap.size + 1 < Z.heap.size := by rw [HSZ.out]; omega
  cases hc1 : tyEq u tI with
  | false =>
    have HC1 := hid hc1
    have HN := hid (HR1.out hc1)
    clear hc1 HR1 HR2
    refine regionL (s := 14) (S0 := (fun w' => w'.cell? ⟨bx, ox, none⟩ = some (.int .i64 kx) ∧ w'.cell? ⟨bx, ox + 1, none⟩ = some (.slice ax nx cx) ∧ w'.cell? ⟨bx, ox + 2, none⟩ = some (.int .i64 kj) ∧ w'.cell? ⟨bx, ox + 2 + 1, none⟩ = some (.slice aj nj cj))) (S1 := (fun _ => True)) (by kernel_rfl) (HS.out _ (below_drew Z)) (trivial) (fun hS0 => ?_)
    refine takeL0 (i := 1) (v := ?va81) rfl rfl (by kernel_rfl) (by kernel_rfl) (by kernel_rfl) (by decide) (by kernel_rfl) (by kernel_rfl) (fun _ _ _ h => h) (Or.inl ⟨by rfl, ?hya81⟩) (by assumption) ?_
    case hya81 => (intro w hSw; (try dsimp only at hSw); go_simp; (try with_reducible rfl))
    try simp only [Act.put, List.setIfInBounds_toArray, List.set_cons_zero, List.set_cons_succ]
    refine takeL0 (i := 2) (v := ?va82) rfl rfl (by kernel_rfl) (by kernel_rfl) (by kernel_rfl) (by decide) (by kernel_rfl) (by kernel_rfl) (fun _ _ _ h => h) (Or.inl ⟨by rfl, ?hya82⟩) (by assumption) ?_
    case hya82 => (intro w hSw; (try dsimp only at hSw); go_simp; (try with_reducible rfl))
    try simp only [Act.put, List.setIfInBounds_toArray, List.set_cons_zero, List.set_cons_succ]
    refine takeL0 (i := 3) (v := ?va83) rfl rfl (by kernel_rfl) (by kernel_rfl) (by kernel_rfl) (by decide) (by kernel_rfl) (by kernel_rfl) (fun _ _ _ h => h) (Or.inl ⟨by rfl, ?hya83⟩) (by assumption) ?_
    case hya83 => (intro w hSw; (try dsimp only at hSw); go_simp; (try with_reducible rfl))
    try simp only [Act.put, List.setIfInBounds_toArray, List.set_cons_zero, List.set_cons_succ]
    refine readyL (rs := [0]) (by kernel_rfl) (by simp) ?_
    refine AllReadyL.cons rfl (fun K hK => ?_) AllReadyL.nil
    go_simp
    refine (l3Bool_any _).mono ?_
    rintro e y0 ⟨rfl, hy0⟩
    have hk0 : Below Z.heap.size Z y0 := below_trans (below_drew Z) hy0
    refine hK.out _ _ ?_ (fun hS1 => ?_)
    · exact ⟨trivial, fun _ => HS.out _ hk0⟩
    clear hK K hS0
    try simp only [Act.put, List.setIfInBounds_toArray, List.set_cons_zero, List.set_cons_succ]
    refine readyL (rs := [4]) (by kernel_rfl) (by simp) ?_
    refine AllReadyL.cons rfl (fun K hK => ?_) AllReadyL.nil
    go_simp
    refine (l3Int_any _).mono ?_
    rintro e y4 ⟨rfl, hy4⟩
    have hk4 : Below Z.heap.size Z y4 := below_trans hk0 hy4
    refine hK.out _ _ ?_ (fun hS2 => ?_)
    · exact ⟨trivial, fun _ => HS.out _ hk4⟩
    clear hK K hS1
    try simp only [Act.put, List.setIfInBounds_toArray, List.set_cons_zero, List.set_cons_succ]
    refine readyL (rs := [5]) (by kernel_rfl) (by simp) ?_
    refine AllReadyL.cons rfl (fun K hK => ?_) AllReadyL.nil
    go_simp
    refine (specTypeSame u tI _ _ _ _ _ (HKx.out _ hk4) (leaf_ty _ 2)).mono ?_
    rintro e y5 ⟨he, hy5⟩
    have hk5 : Below Z.heap.size Z y5 := below_trans hk4 hy5
    rw [HC1.out] at he
    subst he
    refine hK.out _ _ ?_ (fun hS3 => ?_)
    · exact ⟨trivial, fun _ => HS.out _ hk5⟩
    clear hK K hS2
    try simp only [Act.put, List.setIfInBounds_toArray, List.set_cons_zero, List.set_cons_succ]
    refine takeL0 (i := 6) (v := ?va84) rfl rfl (by kernel_rfl) (by kernel_rfl) (by kernel_rfl) (by decide) (by kernel_rfl) (by kernel_rfl) (fun _ _ _ h => h) (Or.inl ⟨by rfl, ?hya84⟩) (by assumption) ?_
    case hya84 => (intro w hSw; (try dsimp only at hSw); go_simp; (try with_reducible rfl))
    try simp only [Act.put, List.setIfInBounds_toArray, List.set_cons_zero, List.set_cons_succ]
    refine takeL0 (i := 7) (v := undef) rfl rfl (by kernel_rfl) (by kernel_rfl) (by kernel_rfl) (by decide) (by kernel_rfl) (by kernel_rfl) (fun _ _ _ h => h) (Or.inr ⟨by rfl, rfl⟩) (by assumption) ?_
    try simp only [Act.put, List.setIfInBounds_toArray, List.set_cons_zero, List.set_cons_succ]
    refine takeL0 (i := 8) (v := undef) rfl rfl (by kernel_rfl) (by kernel_rfl) (by kernel_rfl) (by decide) (by kernel_rfl) (by kernel_rfl) (fun _ _ _ h => h) (Or.inr ⟨by rfl, rfl⟩) (by assumption) ?_
    try simp only [Act.put, List.setIfInBounds_toArray, List.set_cons_zero, List.set_cons_succ]
    refine takeL0 (i := 9) (v := undef) rfl rfl (by kernel_rfl) (by kernel_rfl) (by kernel_rfl) (by decide) (by kernel_rfl) (by kernel_rfl) (fun _ _ _ h => h) (Or.inr ⟨by rfl, rfl⟩) (by assumption) ?_
    try simp only [Act.put, List.setIfInBounds_toArray, List.set_cons_zero, List.set_cons_succ]
    refine takeL0 (i := 10) (v := undef) rfl rfl (by kernel_rfl) (by kernel_rfl) (by kernel_rfl) (by decide) (by kernel_rfl) (by kernel_rfl) (fun _ _ _ h => h) (Or.inr ⟨by rfl, rfl⟩) (by assumption) ?_
    try simp only [Act.put, List.setIfInBounds_toArray, List.set_cons_zero, List.set_cons_succ]
    refine takeL0 (i := 11) (v := undef) rfl rfl (by kernel_rfl) (by kernel_rfl) (by kernel_rfl) (by decide) (by kernel_rfl) (by kernel_rfl) (fun _ _ _ h => h) (Or.inr ⟨by rfl, rfl⟩) (by assumption) ?_
    try simp only [Act.put, List.setIfInBounds_toArray, List.set_cons_zero, List.set_cons_succ]
    refine takeL0 (i := 12) (v := ?va810) rfl rfl (by kernel_rfl) (by kernel_rfl) (by kernel_rfl) (by decide) (by kernel_rfl) (by kernel_rfl) (fun _ _ _ h => h) (Or.inl ⟨by rfl, ?hya810⟩) (by assumption) ?_
    case hya810 => (intro w hSw; (try dsimp only at hSw); go_simp; (try with_reducible rfl))
    try simp only [Act.put, List.setIfInBounds_toArray, List.set_cons_zero, List.set_cons_succ]
    refine readyL (rs := [13]) (by kernel_rfl) (by simp) ?_
    refine AllReadyL.cons rfl (fun K hK => ?_) AllReadyL.nil
    have qq := (hk5.block _ (lt_of_block HQ.out)).trans HQ.out
    have r0 : y5.cell? ⟨w.heap.size + 1, 0, none⟩ = some (.int .i64 0) := by rw [cell_of_block qq]; rfl
    have r1 : y5.cell? ⟨w.heap.size + 1, 1, none⟩ = some (.slice none 0 0) := by rw [cell_of_block qq]; rfl
    have rz := fun o => frozen_of_block (o := o) qq
    have rl := lt_of_block qq
    go_simp
    refine hK.out _ _ ?_ (fun hS4 => ?_)
    · exact ⟨trivial, fun _ => HSP.out y5 _ _ hk5⟩
    clear hK K hS3
    try simp only [Act.put, List.setIfInBounds_toArray, List.set_cons_zero, List.set_cons_succ]
    refine readyL (rs := [14]) (by kernel_rfl) (by simp) ?_
    refine AllReadyL.cons rfl (fun K hK => ?_) AllReadyL.nil
    go_simp
    refine hK.out _ _ ?_ (fun hS5 => ?_)
    · exact ⟨trivial, fun h => absurd (h.symm.trans (show _ = true by kernel_rfl)) (by decide)⟩
    clear hK K hS4
    try simp only [Act.put, List.setIfInBounds_toArray, List.set_cons_zero, List.set_cons_succ]
    refine doneL (by kernel_rfl) ?_ _
    have FIN := hid (MadeTO.stored (w := w) (P := w.heap.size + 1) (o := resE 8 ty fr [u, u2]) (T := tB) (fun u h => by rw [HN.out] at h; cases h) (by rw [HN.out] <;> rfl) (leaf_ty _ 3) (Fresh.nil _ _) (by omega) (by omega) (below_trans HB.out hk5))
    clear HS HSP HB HQ
    go_wp2_with fail
    exact bodyPost_ret (v := .tuple #[.agg #[.int .i64 3, .slice none 0 0], .bool false]) (by simp [results, Tryd.results121, go_sem, r0, r1]) rfl (by first | exact FIN.out | (rw [HRES.out]; exact FIN.out))
  | true =>
    have HC1 := hid hc1
    have HN := hid (HR2.out hc1)
    clear hc1 HR1 HR2
    cases hc2 : tyEq u2 tI with
    | false =>
      have HC2 := hid hc2
      rw [hc2] at HN
      clear hc2
      refine regionL (s := 14) (S0 := (fun w' => w'.cell? ⟨bx, ox, none⟩ = some (.int .i64 kx) ∧ w'.cell? ⟨bx, ox + 1, none⟩ = some (.slice ax nx cx) ∧ w'.cell? ⟨bx, ox + 2, none⟩ = some (.int .i64 kj) ∧ w'.cell? ⟨bx, ox + 2 + 1, none⟩ = some (.slice aj nj cj))) (S1 := (fun _ => True)) (by kernel_rfl) (HS.out _ (below_drew Z)) (trivial) (fun hS0 => ?_)
      refine takeL0 (i := 1) (v := ?vb81) rfl rfl (by kernel_rfl) (by kernel_rfl) (by kernel_rfl) (by decide) (by kernel_rfl) (by kernel_rfl) (fun _ _ _ h => h) (Or.inl ⟨by rfl, ?hyb81⟩) (by assumption) ?_
      case hyb81 => (intro w hSw; (try dsimp only at hSw); go_simp; (try with_reducible rfl))
      try simp only [Act.put, List.setIfInBounds_toArray, List.set_cons_zero, List.set_cons_succ]
      refine takeL0 (i := 2) (v := ?vb82) rfl rfl (by kernel_rfl) (by kernel_rfl) (by kernel_rfl) (by decide) (by kernel_rfl) (by kernel_rfl) (fun _ _ _ h => h) (Or.inl ⟨by rfl, ?hyb82⟩) (by assumption) ?_
      case hyb82 => (intro w hSw; (try dsimp only at hSw); go_simp; (try with_reducible rfl))
      try simp only [Act.put, List.setIfInBounds_toArray, List.set_cons_zero, List.set_cons_succ]
      refine takeL0 (i := 3) (v := ?vb83) rfl rfl (by kernel_rfl) (by kernel_rfl) (by kernel_rfl) (by decide) (by kernel_rfl) (by kernel_rfl) (fun _ _ _ h => h) (Or.inl ⟨by rfl, ?hyb83⟩) (by assumption) ?_
      case hyb83 => (intro w hSw; (try dsimp only at hSw); go_simp; (try with_reducible rfl))
      try simp only [Act.put, List.setIfInBounds_toArray, List.set_cons_zero, List.set_cons_succ]
      refine readyL (rs := [0]) (by kernel_rfl) (by simp) ?_
      refine AllReadyL.cons rfl (fun K hK => ?_) AllReadyL.nil
      go_simp
      refine (l3Bool_any _).mono ?_
      rintro e y0 ⟨rfl, hy0⟩
      have hk0 : Below Z.heap.size Z y0 := below_trans (below_drew Z) hy0
      refine hK.out _ _ ?_ (fun hS1 => ?_)
      · exact ⟨trivial, fun _ => HS.out _ hk0⟩
      clear hK K hS0
      try simp only [Act.put, List.setIfInBounds_toArray, List.set_cons_zero, List.set_cons_succ]
      refine readyL (rs := [4]) (by kernel_rfl) (by simp) ?_
      refine AllReadyL.cons rfl (fun K hK => ?_) AllReadyL.nil
      go_simp
      refine (l3Int_any _).mono ?_
      rintro e y4 ⟨rfl, hy4⟩
      have hk4 : Below Z.heap.size Z y4 := below_trans hk0 hy4
      refine hK.out _ _ ?_ (fun hS2 => ?_)
      · exact ⟨trivial, fun _ => HS.out _ hk4⟩
      clear hK K hS1
      try simp only [Act.put, List.setIfInBounds_toArray, List.set_cons_zero, List.set_cons_succ]
      refine readyL (rs := [5]) (by kernel_rfl) (by simp) ?_
      refine AllReadyL.cons rfl (fun K hK => ?_) AllReadyL.nil
      go_simp
      refine (specTypeSame u tI _ _ _ _ _ (HKx.out _ hk4) (leaf_ty _ 2)).mono ?_
      rintro e y5 ⟨he, hy5⟩
      have hk5 : Below Z.heap.size Z y5 := below_trans hk4 hy5
      rw [HC1.out] at he
      subst he
      refine hK.out _ _ ?_ (fun hS3 => ?_)
      · exact ⟨trivial, fun _ => HS.out _ hk5⟩
      clear hK K hS2
      try simp only [Act.put, List.setIfInBounds_toArray, List.set_cons_zero, List.set_cons_succ]
      refine takeL0 (i := 6) (v := ?vb84) rfl rfl (by kernel_rfl) (by kernel_rfl) (by kernel_rfl) (by decide) (by kernel_rfl) (by kernel_rfl) (fun _ _ _ h => h) (Or.inl ⟨by rfl, ?hyb84⟩) (by assumption) ?_
      case hyb84 => (intro w hSw; (try dsimp only at hSw); go_simp; (try with_reducible rfl))
      try simp only [Act.put, List.setIfInBounds_toArray, List.set_cons_zero, List.set_cons_succ]
      refine takeL0 (i := 7) (v := ?vb85) rfl rfl (by kernel_rfl) (by kernel_rfl) (by kernel_rfl) (by decide) (by kernel_rfl) (by kernel_rfl) (fun _ _ _ h => h) (Or.inl ⟨by rfl, ?hyb85⟩) (by assumption) ?_
      case hyb85 => (intro w hSw; (try dsimp only at hSw); go_simp; (try with_reducible rfl))
      try simp only [Act.put, List.setIfInBounds_toArray, List.set_cons_zero, List.set_cons_succ]
      refine takeL0 (i := 8) (v := ?vb86) rfl rfl (by kernel_rfl) (by kernel_rfl) (by kernel_rfl) (by decide) (by kernel_rfl) (by kernel_rfl) (fun _ _ _ h => h) (Or.inl ⟨by rfl, ?hyb86⟩) (by assumption) ?_
      case hyb86 => (intro w hSw; (try dsimp only at hSw); go_simp; (try with_reducible rfl))
      try simp only [Act.put, List.setIfInBounds_toArray, List.set_cons_zero, List.set_cons_succ]
      refine takeL0 (i := 9) (v := ?vb87) rfl rfl (by kernel_rfl) (by kernel_rfl) (by kernel_rfl) (by decide) (by kernel_rfl) (by kernel_rfl) (fun _ _ _ h => h) (Or.inl ⟨by rfl, ?hyb87⟩) (by assumption) ?_
      case hyb87 => (intro w hSw; (try dsimp only at hSw); go_simp; (try with_reducible rfl))
      try simp only [Act.put, List.setIfInBounds_toArray, List.set_cons_zero, List.set_cons_succ]
      refine readyL (rs := [10]) (by kernel_rfl) (by simp) ?_
      refine AllReadyL.cons rfl (fun K hK => ?_) AllReadyL.nil
      go_simp
      refine (l3Int_any _).mono ?_
      rintro e y10 ⟨rfl, hy10⟩
      have hk10 : Below Z.heap.size Z y10 := below_trans hk5 hy10
      refine hK.out _ _ ?_ (fun hS4 => ?_)
      · exact ⟨trivial, fun _ => HS.out _ hk10⟩
      clear hK K hS3
      try simp only [Act.put, List.setIfInBounds_toArray, List.set_cons_zero, List.set_cons_succ]
      refine readyL (rs := [11]) (by kernel_rfl) (by simp) ?_
      refine AllReadyL.cons rfl (fun K hK => ?_) AllReadyL.nil
      go_simp
      refine (specTypeSame u2 tI _ _ _ _ _ (HKj.out _ hk10) (leaf_ty _ 2)).mono ?_
      rintro e y11 ⟨he, hy11⟩
      have hk11 : Below Z.heap.size Z y11 := below_trans hk10 hy11
      rw [HC2.out] at he
      subst he
      refine hK.out _ _ ?_ (fun hS5 => ?_)
      · exact ⟨trivial, fun _ => HS.out _ hk11⟩
      clear hK K hS4
      try simp only [Act.put, List.setIfInBounds_toArray, List.set_cons_zero, List.set_cons_succ]
      refine takeL0 (i := 12) (v := ?vb88) rfl rfl (by kernel_rfl) (by kernel_rfl) (by kernel_rfl) (by decide) (by kernel_rfl) (by kernel_rfl) (fun _ _ _ h => h) (Or.inl ⟨by rfl, ?hyb88⟩) (by assumption) ?_
      case hyb88 => (intro w hSw; (try dsimp only at hSw); go_simp; (try with_reducible rfl))
      try simp only [Act.put, List.setIfInBounds_toArray, List.set_cons_zero, List.set_cons_succ]
      refine readyL (rs := [13]) (by kernel_rfl) (by simp) ?_
      refine AllReadyL.cons rfl (fun K hK => ?_) AllReadyL.nil
      have qq := (hk11.block _ (lt_of_block HQ.out)).trans HQ.out
      have r0 : y11.cell? ⟨w.heap.size + 1, 0, none⟩ = some (.int .i64 0) := by rw [cell_of_block qq]; rfl
      have r1 : y11.cell? ⟨w.heap.size + 1, 1, none⟩ = some (.slice none 0 0) := by rw [cell_of_block qq]; rfl
      have rz := fun o => frozen_of_block (o := o) qq
      have rl := lt_of_block qq
      go_simp
      refine hK.out _ _ ?_ (fun hS6 => ?_)
      · exact ⟨trivial, fun _ => HSP.out y11 _ _ hk11⟩
      clear hK K hS5
      try simp only [Act.put, List.setIfInBounds_toArray, List.set_cons_zero, List.set_cons_succ]
      refine readyL (rs := [14]) (by kernel_rfl) (by simp) ?_
      refine AllReadyL.cons rfl (fun K hK => ?_) AllReadyL.nil
      go_simp
      refine hK.out _ _ ?_ (fun hS7 => ?_)
      · exact ⟨trivial, fun h => absurd (h.symm.trans (show _ = true by kernel_rfl)) (by decide)⟩
      clear hK K hS6
      try simp only [Act.put, List.setIfInBounds_toArray, List.set_cons_zero, List.set_cons_succ]
      refine doneL (by kernel_rfl) ?_ _
      have FIN := hid (MadeTO.stored (w := w) (P := w.heap.size + 1) (o := resE 8 ty fr [u, u2]) (T := tB) (fun u h => by rw [HN.out] at h; cases h) (by rw [HN.out] <;> rfl) (leaf_ty _ 3) (Fresh.nil _ _) (by omega) (by omega) (below_trans HB.out hk11))
      clear HS HSP HB HQ
      go_wp2_with fail
      exact bodyPost_ret (v := .tuple #[.agg #[.int .i64 3, .slice none 0 0], .bool false]) (by simp [results, Tryd.results121, go_sem, r0, r1]) rfl (by first | exact FIN.out | (rw [HRES.out]; exact FIN.out))
    | true =>
      have HC2 := hid hc2
      rw [hc2] at HN
      clear hc2
      refine regionL (s := 14) (S0 := (fun w' => w'.cell? ⟨bx, ox, none⟩ = some (.int .i64 kx) ∧ w'.cell? ⟨bx, ox + 1, none⟩ = some (.slice ax nx cx) ∧ w'.cell? ⟨bx, ox + 2, none⟩ = some (.int .i64 kj) ∧ w'.cell? ⟨bx, ox + 2 + 1, none⟩ = some (.slice aj nj cj))) (S1 := (fun _ => True)) (by kernel_rfl) (HS.out _ (below_drew Z)) (trivial) (fun hS0 => ?_)
      refine takeL0 (i := 1) (v := ?vc81) rfl rfl (by kernel_rfl) (by kernel_rfl) (by kernel_rfl) (by decide) (by kernel_rfl) (by kernel_rfl) (fun _ _ _ h => h) (Or.inl ⟨by rfl, ?hyc81⟩) (by assumption) ?_
      case hyc81 => (intro w hSw; (try dsimp only at hSw); go_simp; (try with_reducible rfl))
      try simp only [Act.put, List.setIfInBounds_toArray, List.set_cons_zero, List.set_cons_succ]
      refine takeL0 (i := 2) (v := ?vc82) rfl rfl (by kernel_rfl) (by kernel_rfl) (by kernel_rfl) (by decide) (by kernel_rfl) (by kernel_rfl) (fun _ _ _ h => h) (Or.inl ⟨by rfl, ?hyc82⟩) (by assumption) ?_
      case hyc82 => (intro w hSw; (try dsimp only at hSw); go_simp; (try with_reducible rfl))
      try simp only [Act.put, List.setIfInBounds_toArray, List.set_cons_zero, List.set_cons_succ]
      refine takeL0 (i := 3) (v := ?vc83) rfl rfl (by kernel_rfl) (by kernel_rfl) (by kernel_rfl) (by decide) (by kernel_rfl) (by kernel_rfl) (fun _ _ _ h => h) (Or.inl ⟨by rfl, ?hyc83⟩) (by assumption) ?_
      case hyc83 => (intro w hSw; (try dsimp only at hSw); go_simp; (try with_reducible rfl))
      try simp only [Act.put, List.setIfInBounds_toArray, List.set_cons_zero, List.set_cons_succ]
      refine readyL (rs := [0]) (by kernel_rfl) (by simp) ?_
      refine AllReadyL.cons rfl (fun K hK => ?_) AllReadyL.nil
      go_simp
      refine (l3Bool_any _).mono ?_
      rintro e y0 ⟨rfl, hy0⟩
      have hk0 : Below Z.heap.size Z y0 := below_trans (below_drew Z) hy0
      refine hK.out _ _ ?_ (fun hS1 => ?_)
      · exact ⟨trivial, fun _ => HS.out _ hk0⟩
      clear hK K hS0
      try simp only [Act.put, List.setIfInBounds_toArray, List.set_cons_zero, List.set_cons_succ]
      refine readyL (rs := [4]) (by kernel_rfl) (by simp) ?_
      refine AllReadyL.cons rfl (fun K hK => ?_) AllReadyL.nil
      go_simp
      refine (l3Int_any _).mono ?_
      rintro e y4 ⟨rfl, hy4⟩
      have hk4 : Below Z.heap.size Z y4 := below_trans hk0 hy4
      refine hK.out _ _ ?_ (fun hS2 => ?_)
      · exact ⟨trivial, fun _ => HS.out _ hk4⟩
      clear hK K hS1
      try simp only [Act.put, List.setIfInBounds_toArray, List.set_cons_zero, List.set_cons_succ]
      refine readyL (rs := [5]) (by kernel_rfl) (by simp) ?_
      refine AllReadyL.cons rfl (fun K hK => ?_) AllReadyL.nil
      go_simp
      refine (specTypeSame u tI _ _ _ _ _ (HKx.out _ hk4) (leaf_ty _ 2)).mono ?_
      rintro e y5 ⟨he, hy5⟩
      have hk5 : Below Z.heap.size Z y5 := below_trans hk4 hy5
      rw [HC1.out] at he
      subst he
      refine hK.out _ _ ?_ (fun hS3 => ?_)
      · exact ⟨trivial, fun _ => HS.out _ hk5⟩
      clear hK K hS2
      try simp only [Act.put, List.setIfInBounds_toArray, List.set_cons_zero, List.set_cons_succ]
      refine takeL0 (i := 6) (v := ?vc84) rfl rfl (by kernel_rfl) (by kernel_rfl) (by kernel_rfl) (by decide) (by kernel_rfl) (by kernel_rfl) (fun _ _ _ h => h) (Or.inl ⟨by rfl, ?hyc84⟩) (by assumption) ?_
      case hyc84 => (intro w hSw; (try dsimp only at hSw); go_simp; (try with_reducible rfl))
      try simp only [Act.put, List.setIfInBounds_toArray, List.set_cons_zero, List.set_cons_succ]
      refine takeL0 (i := 7) (v := ?vc85) rfl rfl (by kernel_rfl) (by kernel_rfl) (by kernel_rfl) (by decide) (by kernel_rfl) (by kernel_rfl) (fun _ _ _ h => h) (Or.inl ⟨by rfl, ?hyc85⟩) (by assumption) ?_
      case hyc85 => (intro w hSw; (try dsimp only at hSw); go_simp; (try with_reducible rfl))
      try simp only [Act.put, List.setIfInBounds_toArray, List.set_cons_zero, List.set_cons_succ]
      refine takeL0 (i := 8) (v := ?vc86) rfl rfl (by kernel_rfl) (by kernel_rfl) (by kernel_rfl) (by decide) (by kernel_rfl) (by kernel_rfl) (fun _ _ _ h => h) (Or.inl ⟨by rfl, ?hyc86⟩) (by assumption) ?_
      case hyc86 => (intro w hSw; (try dsimp only at hSw); go_simp; (try with_reducible rfl))
      try simp only [Act.put, List.setIfInBounds_toArray, List.set_cons_zero, List.set_cons_succ]
      refine takeL0 (i := 9) (v := ?vc87) rfl rfl (by kernel_rfl) (by kernel_rfl) (by kernel_rfl) (by decide) (by kernel_rfl) (by kernel_rfl) (fun _ _ _ h => h) (Or.inl ⟨by rfl, ?hyc87⟩) (by assumption) ?_
      case hyc87 => (intro w hSw; (try dsimp only at hSw); go_simp; (try with_reducible rfl))
      try simp only [Act.put, List.setIfInBounds_toArray, List.set_cons_zero, List.set_cons_succ]
      refine readyL (rs := [10]) (by kernel_rfl) (by simp) ?_
      refine AllReadyL.cons rfl (fun K hK => ?_) AllReadyL.nil
      go_simp
      refine (l3Int_any _).mono ?_
      rintro e y10 ⟨rfl, hy10⟩
      have hk10 : Below Z.heap.size Z y10 := below_trans hk5 hy10
      refine hK.out _ _ ?_ (fun hS4 => ?_)
      · exact ⟨trivial, fun _ => HS.out _ hk10⟩
      clear hK K hS3
      try simp only [Act.put, List.setIfInBounds_toArray, List.set_cons_zero, List.set_cons_succ]
      refine readyL (rs := [11]) (by kernel_rfl) (by simp) ?_
      refine AllReadyL.cons rfl (fun K hK => ?_) AllReadyL.nil
      go_simp
      refine (specTypeSame u2 tI _ _ _ _ _ (HKj.out _ hk10) (leaf_ty _ 2)).mono ?_
      rintro e y11 ⟨he, hy11⟩
      have hk11 : Below Z.heap.size Z y11 := below_trans hk10 hy11
      rw [HC2.out] at he
      subst he
      refine hK.out _ _ ?_ (fun hS5 => ?_)
      · exact ⟨trivial, fun _ => HS.out _ hk11⟩
      clear hK K hS4
      try simp only [Act.put, List.setIfInBounds_toArray, List.set_cons_zero, List.set_cons_succ]
      refine takeL0 (i := 12) (v := ?vc88) rfl rfl (by kernel_rfl) (by kernel_rfl) (by kernel_rfl) (by decide) (by kernel_rfl) (by kernel_rfl) (fun _ _ _ h => h) (Or.inl ⟨by rfl, ?hyc88⟩) (by assumption) ?_
      case hyc88 => (intro w hSw; (try dsimp only at hSw); go_simp; (try with_reducible rfl))
      try simp only [Act.put, List.setIfInBounds_toArray, List.set_cons_zero, List.set_cons_succ]
      refine readyL (rs := [13]) (by kernel_rfl) (by simp) ?_
      refine AllReadyL.cons rfl (fun K hK => ?_) AllReadyL.nil
      have qq := (hk11.block _ (lt_of_block HQ.out)).trans HQ.out
      have r0 : y11.cell? ⟨w.heap.size + 1, 0, none⟩ = some (.int .i64 0) := by rw [cell_of_block qq]; rfl
      have r1 : y11.cell? ⟨w.heap.size + 1, 1, none⟩ = some (.slice none 0 0) := by rw [cell_of_block qq]; rfl
      have rz := fun o => frozen_of_block (o := o) qq
      have rl := lt_of_block qq
      go_simp
      refine hK.out _ _ ?_ (fun hS6 => ?_)
      · exact ⟨trivial, fun _ => HSP.out y11 _ _ hk11⟩
      clear hK K hS5
      try simp only [Act.put, List.setIfInBounds_toArray, List.set_cons_zero, List.set_cons_succ]
      refine readyL (rs := [14]) (by kernel_rfl) (by simp) ?_
      refine AllReadyL.cons rfl (fun K hK => ?_) AllReadyL.nil
      go_simp
      refine hK.out _ _ ?_ (fun hS7 => ?_)
      · exact ⟨trivial, fun h => absurd (h.symm.trans (show _ = true by kernel_rfl)) (by decide)⟩
      clear hK K hS6
      try simp only [Act.put, List.setIfInBounds_toArray, List.set_cons_zero, List.set_cons_succ]
      refine doneL (by kernel_rfl) ?_ _
      have FIN := hid (MadeTO.stored (w := w) (P := w.heap.size + 1) (o := resE 8 ty fr [u, u2]) (T := tB) (fun u h => by rw [HN.out] at h; cases h; rfl) (by rw [HN.out] <;> rfl) (leaf_ty _ 3) (Fresh.nil _ _) (by omega) (by omega) (below_trans HB.out hk11))
      clear HS HSP HB HQ
      go_wp2_with fail
      exact bodyPost_ret (v := .tuple #[.agg #[.int .i64 3, .slice none 0 0], .bool true]) (by simp [results, Tryd.results121, go_sem, r0, r1]) rfl (by first | exact FIN.out | (rw [HRES.out]; exact FIN.out))

set_option maxRecDepth 100000 in
set_option maxHeartbeats 4000000 in
theorem ex_10 : ReX 10 := by
  intro nm num ty fr lb ts v fe us s fu w hat hus hlen hvl hty
  obtain ⟨k1, n1, a1, c1, k2, n2, a2, c2, a3, c3, f1, f2, f3, rfl, hnm, ht1, ht2, rfl, hs3⟩ := hat.parts
  have HB := hid (show Below w.heap.size w ((w.alloc (Obj.cells #[.int .i64 10, .string nm, .int .i64 num, .int .i64 k1, .slice a1 n1 c1, .int .i64 k2, .slice a2 n2 c2, .int .i64 lb, .slice a3 ts.length c3] 35)).alloc (Obj.cells #[.int .i64 0, .slice none 0 0] 32)) from ((Below.refl _ _).alloc (Nat.le_refl _) _).alloc (by simp) _)
  have HSZ := hid (show ((w.alloc (Obj.cells #[.int .i64 10, .string nm, .int .i64 num, .int .i64 k1, .slice a1 n1 c1, .int .i64 k2, .slice a2 n2 c2, .int .i64 lb, .slice a3 ts.length c3] 35)).alloc (Obj.cells #[.int .i64 0, .slice none 0 0] 32)).heap.size = w.heap.size + 1 + 1 by simp)
  have HQ := hid (two_out (Below.refl _ ((w.alloc (Obj.cells #[.int .i64 10, .string nm, .int .i64 num, .int .i64 k1, .slice a1 n1 c1, .int .i64 k2, .slice a2 n2 c2, .int .i64 lb, .slice a3 ts.length c3] 35)).alloc (Obj.cells #[.int .i64 0, .slice none 0 0] 32)))).2
  obtain ⟨z0, z1, z2, z3, z4, z5, z6, z7, z8⟩ := cells9 (two_out (Below.refl _ ((w.alloc (Obj.cells #[.int .i64 10, .string nm, .int .i64 num, .int .i64 k1, .slice a1 n1 c1, .int .i64 k2, .slice a2 n2 c2, .int .i64 lb, .slice a3 ts.length c3] 35)).alloc (Obj.cells #[.int .i64 0, .slice none 0 0] 32)))).1
  obtain ⟨u, u2, rfl⟩ : ∃ a b, us = [a, b] := by
    have hl0 : us.length = 2 := by have : kidsM 10 = 2 := (by decide); omega
    match us, hl0 with
    | [a, b], _ => exact ⟨a, b, rfl⟩
  obtain ⟨sa, sc, hss, hcap, hmx, hget⟩ := hus.openA
  subst hss
  obtain ⟨bx, ox, kx, nx, ax, cx, gx, hpx, hltx, ex0, ex1, hkx, -⟩ := hget 0 (by simp)
  obtain ⟨bj, oj, kj, nj, aj, cj, gj, hpj, hltj, ej0, ej1, hkj, -⟩ := hget 1 (by simp)
  rw [hpx] at hpj
  simp only [Option.some.injEq, Addr.mk.injEq, and_true] at hpj
  obtain ⟨rfl, rfl⟩ := hpj
  subst hpx
  simp (config := { failIfUnchanged := false }) only [Nat.zero_mul, Nat.add_zero, Nat.one_mul, List.getElem_cons_zero, List.getElem_cons_succ] at ex0 ex1 hkx ej0 ej1 hkj
  replace ex0 := cell_keep ex0 HB.out
  replace ex1 := cell_keep ex1 HB.out
  have HVx := hid (hvl u (by simp))
  have HKx := hid (fun (W : World) (h : Below ((w.alloc (Obj.cells #[.int .i64 10, .string nm, .int .i64 num, .int .i64 k1, .slice a1 n1 c1, .int .i64 k2, .slice a2 n2 c2, .int .i64 lb, .slice a3 ts.length c3] 35)).alloc (Obj.cells #[.int .i64 0, .slice none 0 0] 32)).heap.size ((w.alloc (Obj.cells #[.int .i64 10, .string nm, .int .i64 num, .int .i64 k1, .slice a1 n1 c1, .int .i64 k2, .slice a2 n2 c2, .int .i64 lb, .slice a3 ts.length c3] 35)).alloc (Obj.cells #[.int .i64 0, .slice none 0 0] 32)) W) => hkx.below (below_trans HB.out h))
  replace ej0 := cell_keep ej0 HB.out
  replace ej1 := cell_keep ej1 HB.out
  have HVj := hid (hvl u2 (by simp))
  have HKj := hid (fun (W : World) (h : Below ((w.alloc (Obj.cells #[.int .i64 10, .string nm, .int .i64 num, .int .i64 k1, .slice a1 n1 c1, .int .i64 k2, .slice a2 n2 c2, .int .i64 lb, .slice a3 ts.length c3] 35)).alloc (Obj.cells #[.int .i64 0, .slice none 0 0] 32)).heap.size ((w.alloc (Obj.cells #[.int .i64 10, .string nm, .int .i64 num, .int .i64 k1, .slice a1 n1 c1, .int .i64 k2, .slice a2 n2 c2, .int .i64 lb, .slice a3 ts.length c3] 35)).alloc (Obj.cells #[.int .i64 0, .slice none 0 0] 32)) W) => hkj.below (below_trans HB.out h))
  have HT1 := hid (fun (W : World) (h : Below ((w.alloc (Obj.cells #[.int .i64 10, .string nm, .int .i64 num, .int .i64 k1, .slice a1 n1 c1, .int .i64 k2, .slice a2 n2 c2, .int .i64 lb, .slice a3 ts.length c3] 35)).alloc (Obj.cells #[.int .i64 0, .slice none 0 0] 32)).heap.size ((w.alloc (Obj.cells #[.int .i64 10, .string nm, .int .i64 num, .int .i64 k1, .slice a1 n1 c1, .int .i64 k2, .slice a2 n2 c2, .int .i64 lb, .slice a3 ts.length c3] 35)).alloc (Obj.cells #[.int .i64 0, .slice none 0 0] 32)) W) => ht1.below (below_trans HB.out h))
  have HT2 := hid (fun (W : World) (h : Below ((w.alloc (Obj.cells #[.int .i64 10, .string nm, .int .i64 num, .int .i64 k1, .slice a1 n1 c1, .int .i64 k2, .slice a2 n2 c2, .int .i64 lb, .slice a3 ts.length c3] 35)).alloc (Obj.cells #[.int .i64 0, .slice none 0 0] 32)).heap.size ((w.alloc (Obj.cells #[.int .i64 10, .string nm, .int .i64 num, .int .i64 k1, .slice a1 n1 c1, .int .i64 k2, .slice a2 n2 c2, .int .i64 lb, .slice a3 ts.length c3] 35)).alloc (Obj.cells #[.int .i64 0, .slice none 0 0] 32)) W) => ht2.below (below_trans HB.out h))
  have HTY := hid hty
  have HS := hid (fun (W : World) (h : Below ((w.alloc (Obj.cells #[.int .i64 10, .string nm, .int .i64 num, .int .i64 k1, .slice a1 n1 c1, .int .i64 k2, .slice a2 n2 c2, .int .i64 lb, .slice a3 ts.length c3] 35)).alloc (Obj.cells #[.int .i64 0, .slice none 0 0] 32)).heap.size ((w.alloc (Obj.cells #[.int .i64 10, .string nm, .int .i64 num, .int .i64 k1, .slice a1 n1 c1, .int .i64 k2, .slice a2 n2 c2, .int .i64 lb, .slice a3 ts.length c3] 35)).alloc (Obj.cells #[.int .i64 0, .slice none 0 0] 32)) W) => (show W.cell? ⟨bx, ox, none⟩ = some (.int .i64 kx) ∧ W.cell? ⟨bx, ox + 1, none⟩ = some (.slice ax nx cx) ∧ W.cell? ⟨bx, ox + 2, none⟩ = some (.int .i64 kj) ∧ W.cell? ⟨bx, ox + 2 + 1, none⟩ = some (.slice aj nj cj) from ⟨cell_keep ex0 h, cell_keep ex1 h, cell_keep ej0 h, cell_keep ej1 h⟩))
  have HSP := hid (fun (W : World) (x y : Value) (h : Below ((w.alloc (Obj.cells #[.int .i64 10, .string nm, .int .i64 num, .int .i64 k1, .slice a1 n1 c1, .int .i64 k2, .slice a2 n2 c2, .int .i64 lb, .slice a3 ts.length c3] 35)).alloc (Obj.cells #[.int .i64 0, .slice none 0 0] 32)).heap.size ((w.alloc (Obj.cells #[.int .i64 10, .string nm, .int .i64 num, .int .i64 k1, .slice a1 n1 c1, .int .i64 k2, .slice a2 n2 c2, .int .i64 lb, .slice a3 ts.length c3] 35)).alloc (Obj.cells #[.int .i64 0, .slice none 0 0] 32)) W) => (show ((W.setCell ⟨w.heap.size + 1, 0, none⟩ x).setCell ⟨w.heap.size + 1, 1, none⟩ y).cell? ⟨bx, ox, none⟩ = some (.int .i64 kx) ∧ ((W.setCell ⟨w.heap.size + 1, 0, none⟩ x).setCell ⟨w.heap.size + 1, 1, none⟩ y).cell? ⟨bx, ox + 1, none⟩ = some (.slice ax nx cx) ∧ ((W.setCell ⟨w.heap.size + 1, 0, none⟩ x).setCell ⟨w.heap.size + 1, 1, none⟩ y).cell? ⟨bx, ox + 2, none⟩ = some (.int .i64 kj) ∧ ((W.setCell ⟨w.heap.size + 1, 0, none⟩ x).setCell ⟨w.heap.size + 1, 1, none⟩ y).cell? ⟨bx, ox + 2 + 1, none⟩ = some (.slice aj nj cj) from ⟨two_keepS (cell_keep ex0 h) (by omega) _ _, two_keepS (cell_keep ex1 h) (by omega) _ _, two_keepS (cell_keep ej0 h) (by omega) _ _, two_keepS (cell_keep ej1 h) (by omega) _ _⟩))
  clear hat hus hlen hvl hs3 ht1 ht2 hget hcap hmx hty hkx hkj
  generalize hV : vld (Ty.mk 5 [u, u2]) = V
  have HR1 := hid (show ∀ x, resE 10 ty fr [u, u2] = some x → Ty.mk 5 [u, u2] = x from fun x h => by
    have h' : twoV 5 u u2 = some x := h
    unfold twoV at h'
    by_cases hv : vld (Ty.mk 5 [u, u2]) = true
    · rw [if_pos hv] at h'; cases h'; rfl
    · rw [if_neg hv] at h'; cases h')
  have HR2 := hid (show (resE 10 ty fr [u, u2]).isSome = V from by
    have h' : resE 10 ty fr [u, u2] = twoV 5 u u2 := rfl
    rw [h', ← hV]
    unfold twoV
    cases vld (Ty.mk 5 [u, u2]) <;> rfl)
  have HTW := hid (fun (W : World) (h1 : u.At W (.agg #[.int .i64 kx, .slice ax nx cx]) gx) (h2 : u2.At W (.agg #[.int .i64 kj, .slice aj nj cj]) gj) => l3Two_any 5 u u2 _ _ gx gj W h1 h2 (shp_cnt8 HVx.out (by omega)) (shp_cnt8 HVj.out (by omega)))
  rw [hV] at HTW
  clear hV
  go_enter Tryd.func121, Tryd.ntmps121
  go_wp2_with fail
  generalize ((w.alloc (Obj.cells #[.int .i64 10, .string nm, .int .i64 num, .int .i64 k1, .slice a1 n1 c1, .int .i64 k2, .slice a2 n2 c2, .int .i64 lb, .slice a3 ts.length c3] 35)).alloc (Obj.cells #[.int .i64 0, .slice none 0 0] 32)) = Z at *
  have hzS : w.heap.size + 1 < Z.heap.size := by rw [HSZ.out]; omega
  refine regionL (s := 10) (S0 := (fun w' => w'.cell? ⟨bx, ox, none⟩ = some (.int .i64 kx) ∧ w'.cell? ⟨bx, ox + 1, none⟩ = some (.slice ax nx cx) ∧ w'.cell? ⟨bx, ox + 2, none⟩ = some (.int .i64 kj) ∧ w'.cell? ⟨bx, ox + 2 + 1, none⟩ = some (.slice aj nj cj))) (S1 := (fun _ => True)) (by kernel_rfl) (HS.out _ (below_drew Z)) (trivial) (fun hS0 => ?_)
  refine takeL0 (i := 0) (v := ?vd101) rfl rfl (by kernel_rfl) (by kernel_rfl) (by kernel_rfl) (by decide) (by kernel_rfl) (by kernel_rfl) (fun _ _ _ h => h) (Or.inl ⟨by rfl, ?hyd101⟩) (by assumption) ?_
  case hyd101 => (intro w hSw; (try dsimp only at hSw); go_simp; (try with_reducible rfl))
  try simp only [Act.put, List.setIfInBounds_toArray, List.set_cons_zero, List.set_cons_succ]
  refine takeL0 (i := 1) (v := ?vd102) rfl rfl (by kernel_rfl) (by kernel_rfl) (by kernel_rfl) (by decide) (by kernel_rfl) (by kernel_rfl) (fun _ _ _ h => h) (Or.inl ⟨by rfl, ?hyd102⟩) (by assumption) ?_
  case hyd102 => (intro w hSw; (try dsimp only at hSw); go_simp; (try with_reducible rfl))
  try simp only [Act.put, List.setIfInBounds_toArray, List.set_cons_zero, List.set_cons_succ]
  refine takeL0 (i := 2) (v := ?vd103) rfl rfl (by kernel_rfl) (by kernel_rfl) (by kernel_rfl) (by decide) (by kernel_rfl) (by kernel_rfl) (fun _ _ _ h => h) (Or.inl ⟨by rfl, ?hyd103⟩) (by assumption) ?_
  case hyd103 => (intro w hSw; (try dsimp only at hSw); go_simp; (try with_reducible rfl))
  try simp only [Act.put, List.setIfInBounds_toArray, List.set_cons_zero, List.set_cons_succ]
  refine takeL0 (i := 3) (v := ?vd104) rfl rfl (by kernel_rfl) (by kernel_rfl) (by kernel_rfl) (by decide) (by kernel_rfl) (by kernel_rfl) (fun _ _ _ h => h) (Or.inl ⟨by rfl, ?hyd104⟩) (by assumption) ?_
  case hyd104 => (intro w hSw; (try dsimp only at hSw); go_simp; (try with_reducible rfl))
  try simp only [Act.put, List.setIfInBounds_toArray, List.set_cons_zero, List.set_cons_succ]
  refine takeL0 (i := 4) (v := ?vd105) rfl rfl (by kernel_rfl) (by kernel_rfl) (by kernel_rfl) (by decide) (by kernel_rfl) (by kernel_rfl) (fun _ _ _ h => h) (Or.inl ⟨by rfl, ?hyd105⟩) (by assumption) ?_
  case hyd105 => (intro w hSw; (try dsimp only at hSw); go_simp; (try with_reducible rfl))
  try simp only [Act.put, List.setIfInBounds_toArray, List.set_cons_zero, List.set_cons_succ]
  refine takeL0 (i := 5) (v := ?vd106) rfl rfl (by kernel_rfl) (by kernel_rfl) (by kernel_rfl) (by decide) (by kernel_rfl) (by kernel_rfl) (fun _ _ _ h => h) (Or.inl ⟨by rfl, ?hyd106⟩) (by assumption) ?_
  case hyd106 => (intro w hSw; (try dsimp only at hSw); go_simp; (try with_reducible rfl))
  try simp only [Act.put, List.setIfInBounds_toArray, List.set_cons_zero, List.set_cons_succ]
  refine readyL (rs := [6]) (by kernel_rfl) (by simp) ?_
  refine AllReadyL.cons rfl (fun K hK => ?_) AllReadyL.nil
  go_simp
  refine (HTW.out _ (HKx.out _ (below_drew Z)) (HKj.out _ (below_drew Z))).mono ?_
  rintro e y6 ⟨v6, f6, rfl, hat6, hf6, hy6⟩
  have hk6 : Below Z.heap.size Z y6 := below_trans (below_drew Z) hy6
  obtain ⟨k6, n6, a6, c6, rfl⟩ := hat6.agg
  refine hK.out _ _ ?_ (fun hS1 => ?_)
  · exact ⟨trivial, fun _ => HS.out _ hk6⟩
  clear hK K hS0
  try simp only [Act.put, List.setIfInBounds_toArray, List.set_cons_zero, List.set_cons_succ]
  refine takeL0 (i := 7) (v := ?vd107) rfl rfl (by kernel_rfl) (by kernel_rfl) (by kernel_rfl) (by decide) (by kernel_rfl) (by kernel_rfl) (fun _ _ _ h => h) (Or.inl ⟨by rfl, ?hyd107⟩) (by assumption) ?_
  case hyd107 => (intro w hSw; (try dsimp only at hSw); go_simp; (try with_reducible rfl))
  try simp only [Act.put, List.setIfInBounds_toArray, List.set_cons_zero, List.set_cons_succ]
  refine takeL0 (i := 8) (v := ?vd108) rfl rfl (by kernel_rfl) (by kernel_rfl) (by kernel_rfl) (by decide) (by kernel_rfl) (by kernel_rfl) (fun _ _ _ h => h) (Or.inl ⟨by rfl, ?hyd108⟩) (by assumption) ?_
  case hyd108 => (intro w hSw; (try dsimp only at hSw); go_simp; (try with_reducible rfl))
  try simp only [Act.put, List.setIfInBounds_toArray, List.set_cons_zero, List.set_cons_succ]
  refine readyL (rs := [9]) (by kernel_rfl) (by simp) ?_
  refine AllReadyL.cons rfl (fun K hK => ?_) AllReadyL.nil
  have qq := (hk6.block _ (lt_of_block HQ.out)).trans HQ.out
  have r0 : y6.cell? ⟨w.heap.size + 1, 0, none⟩ = some (.int .i64 0) := by rw [cell_of_block qq]; rfl
  have r1 : y6.cell? ⟨w.heap.size + 1, 1, none⟩ = some (.slice none 0 0) := by rw [cell_of_block qq]; rfl
  have rz := fun o => frozen_of_block (o := o) qq
  have rl := lt_of_block qq
  go_simp
  refine hK.out _ _ ?_ (fun hS2 => ?_)
  · exact ⟨trivial, fun _ => HSP.out y6 _ _ hk6⟩
  clear hK K hS1
  try simp only [Act.put, List.setIfInBounds_toArray, List.set_cons_zero, List.set_cons_succ]
  refine readyL (rs := [10]) (by kernel_rfl) (by simp) ?_
  refine AllReadyL.cons rfl (fun K hK => ?_) AllReadyL.nil
  go_simp
  refine hK.out _ _ ?_ (fun hS3 => ?_)
  · exact ⟨trivial, fun h => absurd (h.symm.trans (show _ = true by kernel_rfl)) (by decide)⟩
  clear hK K hS2
  try simp only [Act.put, List.setIfInBounds_toArray, List.set_cons_zero, List.set_cons_succ]
  refine doneL (by kernel_rfl) ?_ _
  have FIN := hid (MadeTO.stored (w := w) (P := w.heap.size + 1) (o := resE 10 ty fr [u, u2]) (T := (Ty.mk 5 [u, u2])) HR1.out HR2.out hat6 (hf6.mono (below_drew Z).size) (by omega) (by omega) (below_trans HB.out hk6))
  clear HS HSP HB HQ
  go_wp2_with fail
  exact bodyPost_ret (v := .tuple #[.agg #[.int .i64 k6, .slice a6 n6 c6], .bool V]) (by simp [results, Tryd.results121, go_sem, r0, r1]) rfl (by first | exact FIN.out | (rw [HRES.out]; exact FIN.out))

set_option maxRecDepth 100000 in
set_option maxHeartbeats 4000000 in
theorem ex_14 : ReX 14 := by
  intro nm num ty fr lb ts v fe us s fu w hat hus hlen hvl hty
  obtain ⟨k1, n1, a1, c1, k2, n2, a2, c2, a3, c3, f1, f2, f3, rfl, hnm, ht1, ht2, rfl, hs3⟩ := hat.parts
  have HB := hid (show Below w.heap.size w ((w.alloc (Obj.cells #[.int .i64 14, .string nm, .int .i64 num, .int .i64 k1, .slice a1 n1 c1, .int .i64 k2, .slice a2 n2 c2, .int .i64 lb, .slice a3 ts.length c3] 35)).alloc (Obj.cells #[.int .i64 0, .slice none 0 0] 32)) from ((Below.refl _ _).alloc (Nat.le_refl _) _).alloc (by simp) _)
  have HSZ := hid (show ((w.alloc (Obj.cells #[.int .i64 14, .string nm, .int .i64 num, .int .i64 k1, .slice a1 n1 c1, .int .i64 k2, .slice a2 n2 c2, .int .i64 lb, .slice a3 ts.length c3] 35)).alloc (Obj.cells #[.int .i64 0, .slice none 0 0] 32)).heap.size = w.heap.size + 1 + 1 by simp)
  have HQ := hid (two_out (Below.refl _ ((w.alloc (Obj.cells #[.int .i64 14, .string nm, .int .i64 num, .int .i64 k1, .slice a1 n1 c1, .int .i64 k2, .slice a2 n2 c2, .int .i64 lb, .slice a3 ts.length c3] 35)).alloc (Obj.cells #[.int .i64 0, .slice none 0 0] 32)))).2
  obtain ⟨z0, z1, z2, z3, z4, z5, z6, z7, z8⟩ := cells9 (two_out (Below.refl _ ((w.alloc (Obj.cells #[.int .i64 14, .string nm, .int .i64 num, .int .i64 k1, .slice a1 n1 c1, .int .i64 k2, .slice a2 n2 c2, .int .i64 lb, .slice a3 ts.length c3] 35)).alloc (Obj.cells #[.int .i64 0, .slice none 0 0] 32)))).1
  have hl0 : us.length = 1 := by have : kidsM 14 = 1 := (by decide); omega
  obtain ⟨u, rfl⟩ := List.length_eq_one_iff.1 hl0
  obtain ⟨sa, sc, hss, hcap, hmx, hget⟩ := hus.openA
  subst hss
  obtain ⟨bx, ox, kx, nx, ax, cx, gx, hpx, hltx, ex0, ex1, hkx, -⟩ := hget 0 (by simp)
  subst hpx
  simp (config := { failIfUnchanged := false }) only [Nat.zero_mul, Nat.add_zero, List.getElem_cons_zero] at ex0 ex1 hkx
  replace ex0 := cell_keep ex0 HB.out
  replace ex1 := cell_keep ex1 HB.out
  have HVx := hid (hvl u (by simp))
  have HKx := hid (fun (W : World) (h : Below ((w.alloc (Obj.cells #[.int .i64 14, .string nm, .int .i64 num, .int .i64 k1, .slice a1 n1 c1, .int .i64 k2, .slice a2 n2 c2, .int .i64 lb, .slice a3 ts.length c3] 35)).alloc (Obj.cells #[.int .i64 0, .slice none 0 0] 32)).heap.size ((w.alloc (Obj.cells #[.int .i64 14, .string nm, .int .i64 num, .int .i64 k1, .slice a1 n1 c1, .int .i64 k2, .slice a2 n2 c2, .int .i64 lb, .slice a3 ts.length c3] 35)).alloc (Obj.cells #[.int .i64 0, .slice none 0 0] 32)) W) => hkx.below (below_trans HB.out h))
  have HT1 := hid (fun (W : World) (h : Below ((w.alloc (Obj.cells #[.int .i64 14, .string nm, .int .i64 num, .int .i64 k1, .slice a1 n1 c1, .int .i64 k2, .slice a2 n2 c2, .int .i64 lb, .slice a3 ts.length c3] 35)).alloc (Obj.cells #[.int .i64 0, .slice none 0 0] 32)).heap.size ((w.alloc (Obj.cells #[.int .i64 14, .string nm, .int .i64 num, .int .i64 k1, .slice a1 n1 c1, .int .i64 k2, .slice a2 n2 c2, .int .i64 lb, .slice a3 ts.length c3] 35)).alloc (Obj.cells #[.int .i64 0, .slice none 0 0] 32)) W) => ht1.below (below_trans HB.out h))
  have HT2 := hid (fun (W : World) (h : Below ((w.alloc (Obj.cells #[.int .i64 14, .string nm, .int .i64 num, .int .i64 k1, .slice a1 n1 c1, .int .i64 k2, .slice a2 n2 c2, .int .i64 lb, .slice a3 ts.length c3] 35)).alloc (Obj.cells #[.int .i64 0, .slice none 0 0] 32)).heap.size ((w.alloc (Obj.cells #[.int .i64 14, .string nm, .int .i64 num, .int .i64 k1, .slice a1 n1 c1, .int .i64 k2, .slice a2 n2 c2, .int .i64 lb, .slice a3 ts.length c3] 35)).alloc (Obj.cells #[.int .i64 0, .slice none 0 0] 32)) W) => ht2.below (below_trans HB.out h))
  have HTY := hid hty
  have HS := hid (fun (W : World) (h : Below ((w.alloc (Obj.cells #[.int .i64 14, .string nm, .int .i64 num, .int .i64 k1, .slice a1 n1 c1, .int .i64 k2, .slice a2 n2 c2, .int .i64 lb, .slice a3 ts.length c3] 35)).alloc (Obj.cells #[.int .i64 0, .slice none 0 0] 32)).heap.size ((w.alloc (Obj.cells #[.int .i64 14, .string nm, .int .i64 num, .int .i64 k1, .slice a1 n1 c1, .int .i64 k2, .slice a2 n2 c2, .int .i64 lb, .slice a3 ts.length c3] 35)).alloc (Obj.cells #[.int .i64 0, .slice none 0 0] 32)) W) => (show W.cell? ⟨bx, ox, none⟩ = some (.int .i64 kx) ∧ W.cell? ⟨bx, ox + 1, none⟩ = some (.slice ax nx cx) ∧ W.cell? ⟨w.heap.size, 3, none⟩ = some (.int .i64 k1) ∧ W.cell? ⟨w.heap.size, 4, none⟩ = some (.slice a1 n1 c1) ∧ W.cell? ⟨w.heap.size, 5, none⟩ = some (.int .i64 k2) ∧ W.cell? ⟨w.heap.size, 6, none⟩ = some (.slice a2 n2 c2) from ⟨cell_keep ex0 h, cell_keep ex1 h, cell_keep z3 h, cell_keep z4 h, cell_keep z5 h, cell_keep z6 h⟩))
  have HSP := hid (fun (W : World) (x y : Value) (h : Below ((w.alloc (Obj.cells #[.int .i64 14, .string nm, .int .i64 num, .int .i64 k1, .slice a1 n1 c1, .int .i64 k2, .slice a2 n2 c2, .int .i64 lb, .slice a3 ts.length c3] 35)).alloc (Obj.cells #[.int .i64 0, .slice none 0 0] 32)).heap.size ((w.alloc (Obj.cells #[.int .i64 14, .string nm, .int .i64 num, .int .i64 k1, .slice a1 n1 c1, .int .i64 k2, .slice a2 n2 c2, .int .i64 lb, .slice a3 ts.length c3] 35)).alloc (Obj.cells #[.int .i64 0, .slice none 0 0] 32)) W) => (show ((W.setCell ⟨w.heap.size + 1, 0, none⟩ x).setCell ⟨w.heap.size + 1, 1, none⟩ y).cell? ⟨bx, ox, none⟩ = some (.int .i64 kx) ∧ ((W.setCell ⟨w.heap.size + 1, 0, none⟩ x).setCell ⟨w.heap.size + 1, 1, none⟩ y).cell? ⟨bx, ox + 1, none⟩ = some (.slice ax nx cx) ∧ ((W.setCell ⟨w.heap.size + 1, 0, none⟩ x).setCell ⟨w.heap.size + 1, 1, none⟩ y).cell? ⟨w.heap.size, 3, none⟩ = some (.int .i64 k1) ∧ ((W.setCell ⟨w.heap.size + 1, 0, none⟩ x).setCell ⟨w.heap.size + 1, 1, none⟩ y).cell? ⟨w.heap.size, 4, none⟩ = some (.slice a1 n1 c1) ∧ ((W.setCell ⟨w.heap.size + 1, 0, none⟩ x).setCell ⟨w.heap.size + 1, 1, none⟩ y).cell? ⟨w.heap.size, 5, none⟩ = some (.int .i64 k2) ∧ ((W.setCell ⟨w.heap.size + 1, 0, none⟩ x).setCell ⟨w.heap.size + 1, 1, none⟩ y).cell? ⟨w.heap.size, 6, none⟩ = some (.slice a2 n2 c2) from ⟨two_keepS (cell_keep ex0 h) (by omega) _ _, two_keepS (cell_keep ex1 h) (by omega) _ _, two_keepS (cell_keep z3 h) (by omega) _ _, two_keepS (cell_keep z4 h) (by omega) _ _, two_keepS (cell_keep z5 h) (by omega) _ _, two_keepS (cell_keep z6 h) (by omega) _ _⟩))
  clear hat hus hlen hvl hs3 ht1 ht2 hget hcap hmx hty hkx hl0
  have HR1 := hid (show ∀ x, resE 14 ty fr [u] = some x → ty = x from fun x h => by
    have h' : (if tyEq u fr = true then some ty else none) = some x := h
    by_cases hv : tyEq u fr = true
    · rw [if_pos hv] at h'; cases h'; rfl
    · rw [if_neg hv] at h'; cases h')
  have HR2 := hid (show (resE 14 ty fr [u]).isSome = tyEq u fr from by
    have h' : resE 14 ty fr [u] = (if tyEq u fr = true then some ty else none) := rfl
    rw [h']
    cases tyEq u fr <;> rfl)
  have HTV := hid (HTY.out rfl).1
  have HCS := hid (fun (W : World) (h1 : u.At W (.agg #[.int .i64 kx, .slice ax nx cx]) gx) (h2 : fr.At W (.agg #[.int .i64 k2, .slice a2 n2 c2]) f2) => specTypeSame u fr _ _ gx f2 W h1 h2)
  generalize tyEq u fr = V at *
  go_enter Tryd.func121, Tryd.ntmps121
  go_wp2_with fail
  generalize ((w.alloc (Obj.cells #[.int .i64 14, .string nm, .int .i64 num, .int .i64 k1, .slice a1 n1 c1, .int .i64 k2, .slice a2 n2 c2, .int .i64 lb, .slice a3 ts.length c3] 35)).alloc (Obj.cells #[.int .i64 0, .slice none 0 0] 32)) = Z at *
  have hzS : w.heap.size + 1 < Z.heap.size := by rw [HSZ.out]; omega
  refine regionL (s := 10) (S0 := (fun w' => w'.cell? ⟨bx, ox, none⟩ = some (.int .i64 kx) ∧ w'.cell? ⟨bx, ox + 1, none⟩ = some (.slice ax nx cx) ∧ w'.cell? ⟨w.heap.size, 3, none⟩ = some (.int .i64 k1) ∧ w'.cell? ⟨w.heap.size, 4, none⟩ = some (.slice a1 n1 c1) ∧ w'.cell? ⟨w.heap.size, 5, none⟩ = some (.int .i64 k2) ∧ w'.cell? ⟨w.heap.size, 6, none⟩ = some (.slice a2 n2 c2))) (S1 := (fun _ => True)) (by kernel_rfl) (HS.out _ (below_drew Z)) (trivial) (fun hS0 => ?_)
  refine takeL0 (i := 0) (v := ?vd141) rfl rfl (by kernel_rfl) (by kernel_rfl) (by kernel_rfl) (by decide) (by kernel_rfl) (by kernel_rfl) (fun _ _ _ h => h) (Or.inl ⟨by rfl, ?hyd141⟩) (by assumption) ?_
  case hyd141 => (intro w hSw; (try dsimp only at hSw); go_simp; (try with_reducible rfl))
  try simp only [Act.put, List.setIfInBounds_toArray, List.set_cons_zero, List.set_cons_succ]
  refine takeL0 (i := 1) (v := ?vd142) rfl rfl (by kernel_rfl) (by kernel_rfl) (by kernel_rfl) (by decide) (by kernel_rfl) (by kernel_rfl) (fun _ _ _ h => h) (Or.inl ⟨by rfl, ?hyd142⟩) (by assumption) ?_
  case hyd142 => (intro w hSw; (try dsimp only at hSw); go_simp; (try with_reducible rfl))
  try simp only [Act.put, List.setIfInBounds_toArray, List.set_cons_zero, List.set_cons_succ]
  refine takeL0 (i := 3) (v := ?vd143) rfl rfl (by kernel_rfl) (by kernel_rfl) (by kernel_rfl) (by decide) (by kernel_rfl) (by kernel_rfl) (fun _ _ _ h => h) (Or.inl ⟨by rfl, ?hyd143⟩) (by assumption) ?_
  case hyd143 => (intro w hSw; (try dsimp only at hSw); go_simp; (try with_reducible rfl))
  try simp only [Act.put, List.setIfInBounds_toArray, List.set_cons_zero, List.set_cons_succ]
  refine takeL0 (i := 4) (v := ?vd144) rfl rfl (by kernel_rfl) (by kernel_rfl) (by kernel_rfl) (by decide) (by kernel_rfl) (by kernel_rfl) (fun _ _ _ h => h) (Or.inl ⟨by rfl, ?hyd144⟩) (by assumption) ?_
  case hyd144 => (intro w hSw; (try dsimp only at hSw); go_simp; (try with_reducible rfl))
  try simp only [Act.put, List.setIfInBounds_toArray, List.set_cons_zero, List.set_cons_succ]
  refine takeL0 (i := 5) (v := ?vd145) rfl rfl (by kernel_rfl) (by kernel_rfl) (by kernel_rfl) (by decide) (by kernel_rfl) (by kernel_rfl) (fun _ _ _ h => h) (Or.inl ⟨by rfl, ?hyd145⟩) (by assumption) ?_
  case hyd145 => (intro w hSw; (try dsimp only at hSw); go_simp; (try with_reducible rfl))
  try simp only [Act.put, List.setIfInBounds_toArray, List.set_cons_zero, List.set_cons_succ]
  refine takeL0 (i := 6) (v := ?vd146) rfl rfl (by kernel_rfl) (by kernel_rfl) (by kernel_rfl) (by decide) (by kernel_rfl) (by kernel_rfl) (fun _ _ _ h => h) (Or.inl ⟨by rfl, ?hyd146⟩) (by assumption) ?_
  case hyd146 => (intro w hSw; (try dsimp only at hSw); go_simp; (try with_reducible rfl))
  try simp only [Act.put, List.setIfInBounds_toArray, List.set_cons_zero, List.set_cons_succ]
  refine takeL0 (i := 7) (v := ?vd147) rfl rfl (by kernel_rfl) (by kernel_rfl) (by kernel_rfl) (by decide) (by kernel_rfl) (by kernel_rfl) (fun _ _ _ h => h) (Or.inl ⟨by rfl, ?hyd147⟩) (by assumption) ?_
  case hyd147 => (intro w hSw; (try dsimp only at hSw); go_simp; (try with_reducible rfl))
  try simp only [Act.put, List.setIfInBounds_toArray, List.set_cons_zero, List.set_cons_succ]
  refine readyL (rs := [2]) (by kernel_rfl) (by simp) ?_
  refine AllReadyL.cons rfl (fun K hK => ?_) AllReadyL.nil
  go_simp
  refine (l1Copy_any ty _ _ _ (HT1.out _ (below_drew Z)) (shp_cnt8 HTV.out (by omega))).mono ?_
  rintro e y2 ⟨v2, f2c, rfl, hat2, hf2c, hy2⟩
  have hk2 : Below Z.heap.size Z y2 := below_trans (below_drew Z) hy2
  obtain ⟨k6, n6, a6, c6, rfl⟩ := hat2.agg
  refine hK.out _ _ ?_ (fun hS1 => ?_)
  · exact ⟨trivial, fun _ => HS.out _ hk2⟩
  clear hK K hS0
  try simp only [Act.put, List.setIfInBounds_toArray, List.set_cons_zero, List.set_cons_succ]
  refine readyL (rs := [8]) (by kernel_rfl) (by simp) ?_
  refine AllReadyL.cons rfl (fun K hK => ?_) AllReadyL.nil
  go_simp
  refine (HCS.out _ (HKx.out _ hk2) (HT2.out _ hk2)).mono ?_
  rintro e y8 ⟨rfl, hy8⟩
  have hk8 : Below Z.heap.size Z y8 := below_trans hk2 hy8
  refine hK.out _ _ ?_ (fun hS2 => ?_)
  · exact ⟨trivial, fun _ => HS.out _ hk8⟩
  clear hK K hS1
  try simp only [Act.put, List.setIfInBounds_toArray, List.set_cons_zero, List.set_cons_succ]
  refine readyL (rs := [9]) (by kernel_rfl) (by simp) ?_
  refine AllReadyL.cons rfl (fun K hK => ?_) AllReadyL.nil
  have qq := (hk8.block _ (lt_of_block HQ.out)).trans HQ.out
  have r0 : y8.cell? ⟨w.heap.size + 1, 0, none⟩ = some (.int .i64 0) := by rw [cell_of_block qq]; rfl
  have r1 : y8.cell? ⟨w.heap.size + 1, 1, none⟩ = some (.slice none 0 0) := by rw [cell_of_block qq]; rfl
  have rz := fun o => frozen_of_block (o := o) qq
  have rl := lt_of_block qq
  go_simp
  refine hK.out _ _ ?_ (fun hS3 => ?_)
  · exact ⟨trivial, fun _ => HSP.out y8 _ _ hk8⟩
  clear hK K hS2
  try simp only [Act.put, List.setIfInBounds_toArray, List.set_cons_zero, List.set_cons_succ]
  refine readyL (rs := [10]) (by kernel_rfl) (by simp) ?_
  refine AllReadyL.cons rfl (fun K hK => ?_) AllReadyL.nil
  go_simp
  refine hK.out _ _ ?_ (fun hS4 => ?_)
  · exact ⟨trivial, fun h => absurd (h.symm.trans (show _ = true by kernel_rfl)) (by decide)⟩
  clear hK K hS3
  try simp only [Act.put, List.setIfInBounds_toArray, List.set_cons_zero, List.set_cons_succ]
  refine doneL (by kernel_rfl) ?_ _
  have FIN := hid (MadeTO.stored (w := w) (P := w.heap.size + 1) (o := resE 14 ty fr [u]) (T := ty) HR1.out HR2.out (hat2.below hy8) ((hf2c.below hy8).mono (below_drew Z).size) (by omega) (by omega) (below_trans HB.out hk8))
  clear HS HSP HB HQ
  go_wp2_with fail
  exact bodyPost_ret (v := .tuple #[.agg #[.int .i64 k6, .slice a6 n6 c6], .bool V]) (by simp [results, Tryd.results121, go_sem, r0, r1]) rfl (by first | exact FIN.out | (rw [HRES.out]; exact FIN.out))

set_option maxRecDepth 100000 in
set_option maxHeartbeats 4000000 in
theorem ex_9 : ReX 9 := by
  intro nm num ty fr lb ts v fe us s fu w hat hus hlen hvl hty
  obtain ⟨k1, n1, a1, c1, k2, n2, a2, c2, a3, c3, f1, f2, f3, rfl, hnm, ht1, ht2, rfl, hs3⟩ := hat.parts
  have HB := hid (show Below w.heap.size w ((w.alloc (Obj.cells #[.int .i64 9, .string nm, .int .i64 num, .int .i64 k1, .slice a1 n1 c1, .int .i64 k2, .slice a2 n2 c2, .int .i64 lb, .slice a3 ts.length c3] 35)).alloc (Obj.cells #[.int .i64 0, .slice none 0 0] 32)) from ((Below.refl _ _).alloc (Nat.le_refl _) _).alloc (by simp) _)
  have HSZ := hid (show ((w.alloc (Obj.cells #[.int .i64 9, .string nm, .int .i64 num, .int .i64 k1, .slice a1 n1 c1, .int .i64 k2, .slice a2 n2 c2, .int .i64 lb, .slice a3 ts.length c3] 35)).alloc (Obj.cells #[.int .i64 0, .slice none 0 0] 32)).heap.size = w.heap.size + 1 + 1 by simp)
  have HQ := hid (two_out (Below.refl _ ((w.alloc (Obj.cells #[.int .i64 9, .string nm, .int .i64 num, .int .i64 k1, .slice a1 n1 c1, .int .i64 k2, .slice a2 n2 c2, .int .i64 lb, .slice a3 ts.length c3] 35)).alloc (Obj.cells #[.int .i64 0, .slice none 0 0] 32)))).2
  obtain ⟨z0, z1, z2, z3, z4, z5, z6, z7, z8⟩ := cells9 (two_out (Below.refl _ ((w.alloc (Obj.cells #[.int .i64 9, .string nm, .int .i64 num, .int .i64 k1, .slice a1 n1 c1, .int .i64 k2, .slice a2 n2 c2, .int .i64 lb, .slice a3 ts.length c3] 35)).alloc (Obj.cells #[.int .i64 0, .slice none 0 0] 32)))).1
  obtain ⟨u, u2, u3, rfl⟩ : ∃ a b c, us = [a, b, c] := by
    have hl0 : us.length = 3 := by have : kidsM 9 = 3 := (by decide); omega
    match us, hl0 with
    | [a, b, c], _ => exact ⟨a, b, c, rfl⟩
  obtain ⟨sa, sc, hss, hcap, hmx, hget⟩ := hus.openA
  subst hss
  obtain ⟨bx, ox, kx, nx, ax, cx, gx, hpx, hltx, ex0, ex1, hkx, -⟩ := hget 0 (by simp)
  obtain ⟨bj, oj, kj, nj, aj, cj, gj, hpj, hltj, ej0, ej1, hkj, -⟩ := hget 1 (by simp)
  obtain ⟨bl, ol, kl, nl, al, cl, gl, hpl, hltl, el0, el1, hkl, -⟩ := hget 2 (by simp)
  rw [hpx] at hpj
  simp only [Option.some.injEq, Addr.mk.injEq, and_true] at hpj
  obtain ⟨rfl, rfl⟩ := hpj
  rw [hpx] at hpl
  simp only [Option.some.injEq, Addr.mk.injEq, and_true] at hpl
  obtain ⟨rfl, rfl⟩ := hpl
  subst hpx
  simp (config := { failIfUnchanged := false }) only [Nat.zero_mul, Nat.add_zero, Nat.one_mul, Nat.reduceMul, List.getElem_cons_zero, List.getElem_cons_succ] at ex0 ex1 hkx ej0 ej1 hkj el0 el1 hkl
  replace ex0 := cell_keep ex0 HB.out
  replace ex1 := cell_keep ex1 HB.out
  have HVx := hid (hvl u (by simp))
  have HKx := hid (fun (W : World) (h : Below ((w.alloc (Obj.cells #[.int .i64 9, .string nm, .int .i64 num, .int .i64 k1, .slice a1 n1 c1, .int .i64 k2, .slice a2 n2 c2, .int .i64 lb, .slice a3 ts.length c3] 35)).alloc (Obj.cells #[.int .i64 0, .slice none 0 0] 32)).heap.size ((w.alloc (Obj.cells #[.int .i64 9, .string nm, .int .i64 num, .int .i64 k1, .slice a1 n1 c1, .int .i64 k2, .slice a2 n2 c2, .int .i64 lb, .slice a3 ts.length c3] 35)).alloc (Obj.cells #[.int .i64 0, .slice none 0 0] 32)) W) => hkx.below (below_trans HB.out h))
  replace ej0 := cell_keep ej0 HB.out
  replace ej1 := cell_keep ej1 HB.out
  have HVj := hid (hvl u2 (by simp))
  have HKj := hid (fun (W : World) (h : Below ((w.alloc (Obj.cells #[.int .i64 9, .string nm, .int .i64 num, .int .i64 k1, .slice a1 n1 c1, .int .i64 k2, .slice a2 n2 c2, .int .i64 lb, .slice a3 ts.length c3] 35)).alloc (Obj.cells #[.int .i64 0, .slice none 0 0] 32)).heap.size ((w.alloc (Obj.cells #[.int .i64 9, .string nm, .int .i64 num, .int .i64 k1, .slice a1 n1 c1, .int .i64 k2, .slice a2 n2 c2, .int .i64 lb, .slice a3 ts.length c3] 35)).alloc (Obj.cells #[.int .i64 0, .slice none 0 0] 32)) W) => hkj.below (below_trans HB.out h))
  replace el0 := cell_keep el0 HB.out
  replace el1 := cell_keep el1 HB.out
  have HVl := hid (hvl u3 (by simp))
  have HKl := hid (fun (W : World) (h : Below ((w.alloc (Obj.cells #[.int .i64 9, .string nm, .int .i64 num, .int .i64 k1, .slice a1 n1 c1, .int .i64 k2, .slice a2 n2 c2, .int .i64 lb, .slice a3 ts.length c3] 35)).alloc (Obj.cells #[.int .i64 0, .slice none 0 0] 32)).heap.size ((w.alloc (Obj.cells #[.int .i64 9, .string nm, .int .i64 num, .int .i64 k1, .slice a1 n1 c1, .int .i64 k2, .slice a2 n2 c2, .int .i64 lb, .slice a3 ts.length c3] 35)).alloc (Obj.cells #[.int .i64 0, .slice none 0 0] 32)) W) => hkl.below (below_trans HB.out h))
  have HT1 := hid (fun (W : World) (h : Below ((w.alloc (Obj.cells #[.int .i64 9, .string nm, .int .i64 num, .int .i64 k1, .slice a1 n1 c1, .int .i64 k2, .slice a2 n2 c2, .int .i64 lb, .slice a3 ts.length c3] 35)).alloc (Obj.cells #[.int .i64 0, .slice none 0 0] 32)).heap.size ((w.alloc (Obj.cells #[.int .i64 9, .string nm, .int .i64 num, .int .i64 k1, .slice a1 n1 c1, .int .i64 k2, .slice a2 n2 c2, .int .i64 lb, .slice a3 ts.length c3] 35)).alloc (Obj.cells #[.int .i64 0, .slice none 0 0] 32)) W) => ht1.below (below_trans HB.out h))
  have HT2 := hid (fun (W : World) (h : Below ((w.alloc (Obj.cells #[.int .i64 9, .string nm, .int .i64 num, .int .i64 k1, .slice a1 n1 c1, .int .i64 k2, .slice a2 n2 c2, .int .i64 lb, .slice a3 ts.length c3] 35)).alloc (Obj.cells #[.int .i64 0, .slice none 0 0] 32)).heap.size ((w.alloc (Obj.cells #[.int .i64 9, .string nm, .int .i64 num, .int .i64 k1, .slice a1 n1 c1, .int .i64 k2, .slice a2 n2 c2, .int .i64 lb, .slice a3 ts.length c3] 35)).alloc (Obj.cells #[.int .i64 0, .slice none 0 0] 32)) W) => ht2.below (below_trans HB.out h))
  have HTY := hid hty
  have HS := hid (fun (W : World) (h : Below ((w.alloc (Obj.cells #[.int .i64 9, .string nm, .int .i64 num, .int .i64 k1, .slice a1 n1 c1, .int .i64 k2, .slice a2 n2 c2, .int .i64 lb, .slice a3 ts.length c3] 35)).alloc (Obj.cells #[.int .i64 0, .slice none 0 0] 32)).heap.size ((w.alloc (Obj.cells #[.int .i64 9, .string nm, .int .i64 num, .int .i64 k1, .slice a1 n1 c1, .int .i64 k2, .slice a2 n2 c2, .int .i64 lb, .slice a3 ts.length c3] 35)).alloc (Obj.cells #[.int .i64 0, .slice none 0 0] 32)) W) => (show W.cell? ⟨bx, ox, none⟩ = some (.int .i64 kx) ∧ W.cell? ⟨bx, ox + 1, none⟩ = some (.slice ax nx cx) ∧ W.cell? ⟨bx, ox + 2, none⟩ = some (.int .i64 kj) ∧ W.cell? ⟨bx, ox + 2 + 1, none⟩ = some (.slice aj nj cj) ∧ W.cell? ⟨bx, ox + 4, none⟩ = some (.int .i64 kl) ∧ W.cell? ⟨bx, ox + 4 + 1, none⟩ = some (.slice al nl cl) from ⟨cell_keep ex0 h, cell_keep ex1 h, cell_keep ej0 h, cell_keep ej1 h, cell_keep el0 h, cell_keep el1 h⟩))
  have HSP := hid (fun (W : World) (x y : Value) (h : Below ((w.alloc (Obj.cells #[.int .i64 9, .string nm, .int .i64 num, .int .i64 k1, .slice a1 n1 c1, .int .i64 k2, .slice a2 n2 c2, .int .i64 lb, .slice a3 ts.length c3] 35)).alloc (Obj.cells #[.int .i64 0, .slice none 0 0] 32)).heap.size ((w.alloc (Obj.cells #[.int .i64 9, .string nm, .int .i64 num, .int .i64 k1, .slice a1 n1 c1, .int .i64 k2, .slice a2 n2 c2, .int .i64 lb, .slice a3 ts.length c3] 35)).alloc (Obj.cells #[.int .i64 0, .slice none 0 0] 32)) W) => (show ((W.setCell ⟨w.heap.size + 1, 0, none⟩ x).setCell ⟨w.heap.size + 1, 1, none⟩ y).cell? ⟨bx, ox, none⟩ = some (.int .i64 kx) ∧ ((W.setCell ⟨w.heap.size + 1, 0, none⟩ x).setCell ⟨w.heap.size + 1, 1, none⟩ y).cell? ⟨bx, ox + 1, none⟩ = some (.slice ax nx cx) ∧ ((W.setCell ⟨w.heap.size + 1, 0, none⟩ x).setCell ⟨w.heap.size + 1, 1, none⟩ y).cell? ⟨bx, ox + 2, none⟩ = some (.int .i64 kj) ∧ ((W.setCell ⟨w.heap.size + 1, 0, none⟩ x).setCell ⟨w.heap.size + 1, 1, none⟩ y).cell? ⟨bx, ox + 2 + 1, none⟩ = some (.slice aj nj cj) ∧ ((W.setCell ⟨w.heap.size + 1, 0, none⟩ x).setCell ⟨w.heap.size + 1, 1, none⟩ y).cell? ⟨bx, ox + 4, none⟩ = some (.int .i64 kl) ∧ ((W.setCell ⟨w.heap.size + 1, 0, none⟩ x).setCell ⟨w.heap.size + 1, 1, none⟩ y).cell? ⟨bx, ox + 4 + 1, none⟩ = some (.slice al nl cl) from ⟨two_keepS (cell_keep ex0 h) (by omega) _ _, two_keepS (cell_keep ex1 h) (by omega) _ _, two_keepS (cell_keep ej0 h) (by omega) _ _, two_keepS (cell_keep ej1 h) (by omega) _ _, two_keepS (cell_keep el0 h) (by omega) _ _, two_keepS (cell_keep el1 h) (by omega) _ _⟩))
  clear hat hus hlen hvl hs3 ht1 ht2 hget hcap hmx hty hkx hkj hkl
  have HR1 := hid (show tyEq u tB = false → resE 9 ty fr [u, u2, u3] = none from fun h => by simp [resE, nth, h])
  have HR2 := hid (show tyEq u tB = true → ∀ x, resE 9 ty fr [u, u2, u3] = some x → u2 = x from fun h x hx => by
    have h' : (if (tyEq u tB && tyEq u2 u3) = true then some u2 else none) = some x := hx
    rw [h, Bool.true_and] at h'
    by_cases hv : tyEq u2 u3 = true
    · rw [if_pos hv] at h'; cases h'; rfl
    · rw [if_neg hv] at h'; cases h')
  have HR3 := hid (show tyEq u tB = true → (resE 9 ty fr [u, u2, u3]).isSome = tyEq u2 u3 from fun h => by
    have h' : resE 9 ty fr [u, u2, u3] = (if (tyEq u tB && tyEq u2 u3) = true then some u2 else none) := rfl
    rw [h', h, Bool.true_and]
    cases tyEq u2 u3 <;> rfl)
  have HC1 := hid (fun (W : World) (h1 : u.At W (.agg #[.int .i64 kx, .slice ax nx cx]) gx) => specTypeSame u tB _ _ gx [] W h1 (leaf_ty W 3))
  have HC2 := hid (fun (W : World) (h1 : u2.At W (.agg #[.int .i64 kj, .slice aj nj cj]) gj) (h2 : u3.At W (.agg #[.int .i64 kl, .slice al nl cl]) gl) => specTypeSame u2 u3 _ _ gj gl W h1 h2)
  generalize tyEq u2 u3 = V at *
  generalize tyEq u tB = cc at *
  go_enter Tryd.func121, Tryd.ntmps121
  go_wp2_with fail
  generalize ((w.alloc (Obj.cells #[.int .i64 9, .string nm, .int .i64 num, .int .i64 k1, .slice a1 n1 c1, .int .i64 k2, .slice a2 n2 c2, .int .i64 lb, .slice a3 ts.length c3] 35)).alloc (Obj.cells #[.int .i64 0, .slice none 0 0] 32)) = Z at *
  have hzS : w.heap.size + 1 < Z.heap.size := by rw [HSZ.out]; omega
  cases cc with
  | false =>
    refine regionL (s := 19) (S0 := (fun w' => w'.cell? ⟨bx, ox, none⟩ = some (.int .i64 kx) ∧ w'.cell? ⟨bx, ox + 1, none⟩ = some (.slice ax nx cx) ∧ w'.cell? ⟨bx, ox + 2, none⟩ = some (.int .i64 kj) ∧ w'.cell? ⟨bx, ox + 2 + 1, none⟩ = some (.slice aj nj cj) ∧ w'.cell? ⟨bx, ox + 4, none⟩ = some (.int .i64 kl) ∧ w'.cell? ⟨bx, ox + 4 + 1, none⟩ = some (.slice al nl cl))) (S1 := (fun _ => True)) (by kernel_rfl) (HS.out _ (below_drew Z)) (trivial) (fun hS0 => ?_)
    refine takeL0 (i := 0) (v := ?vd91) rfl rfl (by kernel_rfl) (by kernel_rfl) (by kernel_rfl) (by decide) (by kernel_rfl) (by kernel_rfl) (fun _ _ _ h => h) (Or.inl ⟨by rfl, ?hyd91⟩) (by assumption) ?_
    case hyd91 => (intro w hSw; (try dsimp only at hSw); go_simp; (try with_reducible rfl))
    try simp only [Act.put, List.setIfInBounds_toArray, List.set_cons_zero, List.set_cons_succ]
    refine takeL0 (i := 1) (v := ?vd92) rfl rfl (by kernel_rfl) (by kernel_rfl) (by kernel_rfl) (by decide) (by kernel_rfl) (by kernel_rfl) (fun _ _ _ h => h) (Or.inl ⟨by rfl, ?hyd92⟩) (by assumption) ?_
    case hyd92 => (intro w hSw; (try dsimp only at hSw); go_simp; (try with_reducible rfl))
    try simp only [Act.put, List.setIfInBounds_toArray, List.set_cons_zero, List.set_cons_succ]
    refine takeL0 (i := 2) (v := ?vd93) rfl rfl (by kernel_rfl) (by kernel_rfl) (by kernel_rfl) (by decide) (by kernel_rfl) (by kernel_rfl) (fun _ _ _ h => h) (Or.inl ⟨by rfl, ?hyd93⟩) (by assumption) ?_
    case hyd93 => (intro w hSw; (try dsimp only at hSw); go_simp; (try with_reducible rfl))
    try simp only [Act.put, List.setIfInBounds_toArray, List.set_cons_zero, List.set_cons_succ]
    refine takeL0 (i := 4) (v := ?vd94) rfl rfl (by kernel_rfl) (by kernel_rfl) (by kernel_rfl) (by decide) (by kernel_rfl) (by kernel_rfl) (fun _ _ _ h => h) (Or.inl ⟨by rfl, ?hyd94⟩) (by assumption) ?_
    case hyd94 => (intro w hSw; (try dsimp only at hSw); go_simp; (try with_reducible rfl))
    try simp only [Act.put, List.setIfInBounds_toArray, List.set_cons_zero, List.set_cons_succ]
    refine takeL0 (i := 5) (v := ?vd95) rfl rfl (by kernel_rfl) (by kernel_rfl) (by kernel_rfl) (by decide) (by kernel_rfl) (by kernel_rfl) (fun _ _ _ h => h) (Or.inl ⟨by rfl, ?hyd95⟩) (by assumption) ?_
    case hyd95 => (intro w hSw; (try dsimp only at hSw); go_simp; (try with_reducible rfl))
    try simp only [Act.put, List.setIfInBounds_toArray, List.set_cons_zero, List.set_cons_succ]
    refine takeL0 (i := 6) (v := ?vd96) rfl rfl (by kernel_rfl) (by kernel_rfl) (by kernel_rfl) (by decide) (by kernel_rfl) (by kernel_rfl) (fun _ _ _ h => h) (Or.inl ⟨by rfl, ?hyd96⟩) (by assumption) ?_
    case hyd96 => (intro w hSw; (try dsimp only at hSw); go_simp; (try with_reducible rfl))
    try simp only [Act.put, List.setIfInBounds_toArray, List.set_cons_zero, List.set_cons_succ]
    refine readyL (rs := [3]) (by kernel_rfl) (by simp) ?_
    refine AllReadyL.cons rfl (fun K hK => ?_) AllReadyL.nil
    go_simp
    refine (l1Copy_any u2 _ _ _ (HKj.out _ (below_drew Z)) (shp_cnt8 HVj.out (by omega))).mono ?_
    rintro e y3 ⟨v3, f3c, rfl, hat3, hf3c, hy3⟩
    have hk3 : Below Z.heap.size Z y3 := below_trans (below_drew Z) hy3
    obtain ⟨k6, n6, a6, c6, rfl⟩ := hat3.agg
    refine hK.out _ _ ?_ (fun hS1 => ?_)
    · exact ⟨trivial, fun _ => HS.out _ hk3⟩
    clear hK K hS0
    try simp only [Act.put, List.setIfInBounds_toArray, List.set_cons_zero, List.set_cons_succ]
    refine readyL (rs := [7]) (by kernel_rfl) (by simp) ?_
    refine AllReadyL.cons rfl (fun K hK => ?_) AllReadyL.nil
    go_simp
    refine (l3Bool_any _).mono ?_
    rintro e y7 ⟨rfl, hy7⟩
    have hk7 : Below Z.heap.size Z y7 := below_trans hk3 hy7
    refine hK.out _ _ ?_ (fun hS2 => ?_)
    · exact ⟨trivial, fun _ => HS.out _ hk7⟩
    clear hK K hS1
    try simp only [Act.put, List.setIfInBounds_toArray, List.set_cons_zero, List.set_cons_succ]
    refine readyL (rs := [8]) (by kernel_rfl) (by simp) ?_
    refine AllReadyL.cons rfl (fun K hK => ?_) AllReadyL.nil
    go_simp
    refine (HC1.out _ (HKx.out _ hk7)).mono ?_
    rintro e y8 ⟨rfl, hy8⟩
    have hk8 : Below Z.heap.size Z y8 := below_trans hk7 hy8
    refine hK.out _ _ ?_ (fun hS3 => ?_)
    · exact ⟨trivial, fun _ => HS.out _ hk8⟩
    clear hK K hS2
    try simp only [Act.put, List.setIfInBounds_toArray, List.set_cons_zero, List.set_cons_succ]
    refine takeL0 (i := 9) (v := ?vd97) rfl rfl (by kernel_rfl) (by kernel_rfl) (by kernel_rfl) (by decide) (by kernel_rfl) (by kernel_rfl) (fun _ _ _ h => h) (Or.inl ⟨by rfl, ?hyd97⟩) (by assumption) ?_
    case hyd97 => (intro w hSw; (try dsimp only at hSw); go_simp; (try with_reducible rfl))
    try simp only [Act.put, List.setIfInBounds_toArray, List.set_cons_zero, List.set_cons_succ]
    refine takeL0 (i := 10) (v := undef) rfl rfl (by kernel_rfl) (by kernel_rfl) (by kernel_rfl) (by decide) (by kernel_rfl) (by kernel_rfl) (fun _ _ _ h => h) (Or.inr ⟨by rfl, rfl⟩) (by assumption) ?_
    try simp only [Act.put, List.setIfInBounds_toArray, List.set_cons_zero, List.set_cons_succ]
    refine takeL0 (i := 11) (v := undef) rfl rfl (by kernel_rfl) (by kernel_rfl) (by kernel_rfl) (by decide) (by kernel_rfl) (by kernel_rfl) (fun _ _ _ h => h) (Or.inr ⟨by rfl, rfl⟩) (by assumption) ?_
    try simp only [Act.put, List.setIfInBounds_toArray, List.set_cons_zero, List.set_cons_succ]
    refine takeL0 (i := 12) (v := undef) rfl rfl (by kernel_rfl) (by kernel_rfl) (by kernel_rfl) (by decide) (by kernel_rfl) (by kernel_rfl) (fun _ _ _ h => h) (Or.inr ⟨by rfl, rfl⟩) (by assumption) ?_
    try simp only [Act.put, List.setIfInBounds_toArray, List.set_cons_zero, List.set_cons_succ]
    refine takeL0 (i := 13) (v := undef) rfl rfl (by kernel_rfl) (by kernel_rfl) (by kernel_rfl) (by decide) (by kernel_rfl) (by kernel_rfl) (fun _ _ _ h => h) (Or.inr ⟨by rfl, rfl⟩) (by assumption) ?_
    try simp only [Act.put, List.setIfInBounds_toArray, List.set_cons_zero, List.set_cons_succ]
    refine takeL0 (i := 14) (v := undef) rfl rfl (by kernel_rfl) (by kernel_rfl) (by kernel_rfl) (by decide) (by kernel_rfl) (by kernel_rfl) (fun _ _ _ h => h) (Or.inr ⟨by rfl, rfl⟩) (by assumption) ?_
    try simp only [Act.put, List.setIfInBounds_toArray, List.set_cons_zero, List.set_cons_succ]
    refine takeL0 (i := 15) (v := undef) rfl rfl (by kernel_rfl) (by kernel_rfl) (by kernel_rfl) (by decide) (by kernel_rfl) (by kernel_rfl) (fun _ _ _ h => h) (Or.inr ⟨by rfl, rfl⟩) (by assumption) ?_
    try simp only [Act.put, List.setIfInBounds_toArray, List.set_cons_zero, List.set_cons_succ]
    refine takeL0 (i := 16) (v := undef) rfl rfl (by kernel_rfl) (by kernel_rfl) (by kernel_rfl) (by decide) (by kernel_rfl) (by kernel_rfl) (fun _ _ _ h => h) (Or.inr ⟨by rfl, rfl⟩) (by assumption) ?_
    try simp only [Act.put, List.setIfInBounds_toArray, List.set_cons_zero, List.set_cons_succ]
    refine takeL0 (i := 17) (v := ?vd915) rfl rfl (by kernel_rfl) (by kernel_rfl) (by kernel_rfl) (by decide) (by kernel_rfl) (by kernel_rfl) (fun _ _ _ h => h) (Or.inl ⟨by rfl, ?hyd915⟩) (by assumption) ?_
    case hyd915 => (intro w hSw; (try dsimp only at hSw); go_simp; (try with_reducible rfl))
    try simp only [Act.put, List.setIfInBounds_toArray, List.set_cons_zero, List.set_cons_succ]
    refine readyL (rs := [18]) (by kernel_rfl) (by simp) ?_
    refine AllReadyL.cons rfl (fun K hK => ?_) AllReadyL.nil
    have qq := (hk8.block _ (lt_of_block HQ.out)).trans HQ.out
    have r0 : y8.cell? ⟨w.heap.size + 1, 0, none⟩ = some (.int .i64 0) := by rw [cell_of_block qq]; rfl
    have r1 : y8.cell? ⟨w.heap.size + 1, 1, none⟩ = some (.slice none 0 0) := by rw [cell_of_block qq]; rfl
    have rz := fun o => frozen_of_block (o := o) qq
    have rl := lt_of_block qq
    go_simp
    refine hK.out _ _ ?_ (fun hS4 => ?_)
    · exact ⟨trivial, fun _ => HSP.out y8 _ _ hk8⟩
    clear hK K hS3
    try simp only [Act.put, List.setIfInBounds_toArray, List.set_cons_zero, List.set_cons_succ]
    refine readyL (rs := [19]) (by kernel_rfl) (by simp) ?_
    refine AllReadyL.cons rfl (fun K hK => ?_) AllReadyL.nil
    go_simp
    refine hK.out _ _ ?_ (fun hS5 => ?_)
    · exact ⟨trivial, fun h => absurd (h.symm.trans (show _ = true by kernel_rfl)) (by decide)⟩
    clear hK K hS4
    try simp only [Act.put, List.setIfInBounds_toArray, List.set_cons_zero, List.set_cons_succ]
    refine doneL (by kernel_rfl) ?_ _
    have FIN := hid (MadeTO.stored (w := w) (P := w.heap.size + 1) (o := resE 9 ty fr [u, u2, u3]) (T := u2) (fun x h => by rw [HR1.out rfl] at h; cases h) (by rw [HR1.out rfl] <;> rfl) ((hat3.below hy7).below hy8) (((hf3c.below hy7).below hy8).mono (below_drew Z).size) (by omega) (by omega) (below_trans HB.out hk8))
    clear HS HSP HB HQ
    go_wp2_with fail
    exact bodyPost_ret (v := .tuple #[.agg #[.int .i64 k6, .slice a6 n6 c6], .bool false]) (by simp [results, Tryd.results121, go_sem, r0, r1]) rfl (by first | exact FIN.out | (rw [HRES.out]; exact FIN.out))
  | true =>
    refine regionL (s := 19) (S0 := (fun w' => w'.cell? ⟨bx, ox, none⟩ = some (.int .i64 kx) ∧ w'.cell? ⟨bx, ox + 1, none⟩ = some (.slice ax nx cx) ∧ w'.cell? ⟨bx, ox + 2, none⟩ = some (.int .i64 kj) ∧ w'.cell? ⟨bx, ox + 2 + 1, none⟩ = some (.slice aj nj cj) ∧ w'.cell? ⟨bx, ox + 4, none⟩ = some (.int .i64 kl) ∧ w'.cell? ⟨bx, ox + 4 + 1, none⟩ = some (.slice al nl cl))) (S1 := (fun _ => True)) (by kernel_rfl) (HS.out _ (below_drew Z)) (trivial) (fun hS0 => ?_)
    refine takeL0 (i := 0) (v := ?vf91) rfl rfl (by kernel_rfl) (by kernel_rfl) (by kernel_rfl) (by decide) (by kernel_rfl) (by kernel_rfl) (fun _ _ _ h => h) (Or.inl ⟨by rfl, ?hyf91⟩) (by assumption) ?_
    case hyf91 => (intro w hSw; (try dsimp only at hSw); go_simp; (try with_reducible rfl))
    try simp only [Act.put, List.setIfInBounds_toArray, List.set_cons_zero, List.set_cons_succ]
    refine takeL0 (i := 1) (v := ?vf92) rfl rfl (by kernel_rfl) (by kernel_rfl) (by kernel_rfl) (by decide) (by kernel_rfl) (by kernel_rfl) (fun _ _ _ h => h) (Or.inl ⟨by rfl, ?hyf92⟩) (by assumption) ?_
    case hyf92 => (intro w hSw; (try dsimp only at hSw); go_simp; (try with_reducible rfl))
    try simp only [Act.put, List.setIfInBounds_toArray, List.set_cons_zero, List.set_cons_succ]
    refine takeL0 (i := 2) (v := ?vf93) rfl rfl (by kernel_rfl) (by kernel_rfl) (by kernel_rfl) (by decide) (by kernel_rfl) (by kernel_rfl) (fun _ _ _ h => h) (Or.inl ⟨by rfl, ?hyf93⟩) (by assumption) ?_
    case hyf93 => (intro w hSw; (try dsimp only at hSw); go_simp; (try with_reducible rfl))
    try simp only [Act.put, List.setIfInBounds_toArray, List.set_cons_zero, List.set_cons_succ]
    refine takeL0 (i := 4) (v := ?vf94) rfl rfl (by kernel_rfl) (by kernel_rfl) (by kernel_rfl) (by decide) (by kernel_rfl) (by kernel_rfl) (fun _ _ _ h => h) (Or.inl ⟨by rfl, ?hyf94⟩) (by assumption) ?_
    case hyf94 => (intro w hSw; (try dsimp only at hSw); go_simp; (try with_reducible rfl))
    try simp only [Act.put, List.setIfInBounds_toArray, List.set_cons_zero, List.set_cons_succ]
    refine takeL0 (i := 5) (v := ?vf95) rfl rfl (by kernel_rfl) (by kernel_rfl) (by kernel_rfl) (by decide) (by kernel_rfl) (by kernel_rfl) (fun _ _ _ h => h) (Or.inl ⟨by rfl, ?hyf95⟩) (by assumption) ?_
    case hyf95 => (intro w hSw; (try dsimp only at hSw); go_simp; (try with_reducible rfl))
    try simp only [Act.put, List.setIfInBounds_toArray, List.set_cons_zero, List.set_cons_succ]
    refine takeL0 (i := 6) (v := ?vf96) rfl rfl (by kernel_rfl) (by kernel_rfl) (by kernel_rfl) (by decide) (by kernel_rfl) (by kernel_rfl) (fun _ _ _ h => h) (Or.inl ⟨by rfl, ?hyf96⟩) (by assumption) ?_
    case hyf96 => (intro w hSw; (try dsimp only at hSw); go_simp; (try with_reducible rfl))
    try simp only [Act.put, List.setIfInBounds_toArray, List.set_cons_zero, List.set_cons_succ]
    refine readyL (rs := [3]) (by kernel_rfl) (by simp) ?_
    refine AllReadyL.cons rfl (fun K hK => ?_) AllReadyL.nil
    go_simp
    refine (l1Copy_any u2 _ _ _ (HKj.out _ (below_drew Z)) (shp_cnt8 HVj.out (by omega))).mono ?_
    rintro e y3 ⟨v3, f3c, rfl, hat3, hf3c, hy3⟩
    have hk3 : Below Z.heap.size Z y3 := below_trans (below_drew Z) hy3
    obtain ⟨k6, n6, a6, c6, rfl⟩ := hat3.agg
    refine hK.out _ _ ?_ (fun hS1 => ?_)
    · exact ⟨trivial, fun _ => HS.out _ hk3⟩
    clear hK K hS0
    try simp only [Act.put, List.setIfInBounds_toArray, List.set_cons_zero, List.set_cons_succ]
    refine readyL (rs := [7]) (by kernel_rfl) (by simp) ?_
    refine AllReadyL.cons rfl (fun K hK => ?_) AllReadyL.nil
    go_simp
    refine (l3Bool_any _).mono ?_
    rintro e y7 ⟨rfl, hy7⟩
    have hk7 : Below Z.heap.size Z y7 := below_trans hk3 hy7
    refine hK.out _ _ ?_ (fun hS2 => ?_)
    · exact ⟨trivial, fun _ => HS.out _ hk7⟩
    clear hK K hS1
    try simp only [Act.put, List.setIfInBounds_toArray, List.set_cons_zero, List.set_cons_succ]
    refine readyL (rs := [8]) (by kernel_rfl) (by simp) ?_
    refine AllReadyL.cons rfl (fun K hK => ?_) AllReadyL.nil
    go_simp
    refine (HC1.out _ (HKx.out _ hk7)).mono ?_
    rintro e y8 ⟨rfl, hy8⟩
    have hk8 : Below Z.heap.size Z y8 := below_trans hk7 hy8
    refine hK.out _ _ ?_ (fun hS3 => ?_)
    · exact ⟨trivial, fun _ => HS.out _ hk8⟩
    clear hK K hS2
    try simp only [Act.put, List.setIfInBounds_toArray, List.set_cons_zero, List.set_cons_succ]
    refine takeL0 (i := 9) (v := ?vf97) rfl rfl (by kernel_rfl) (by kernel_rfl) (by kernel_rfl) (by decide) (by kernel_rfl) (by kernel_rfl) (fun _ _ _ h => h) (Or.inl ⟨by rfl, ?hyf97⟩) (by assumption) ?_
    case hyf97 => (intro w hSw; (try dsimp only at hSw); go_simp; (try with_reducible rfl))
    try simp only [Act.put, List.setIfInBounds_toArray, List.set_cons_zero, List.set_cons_succ]
    refine takeL0 (i := 10) (v := ?vf98) rfl rfl (by kernel_rfl) (by kernel_rfl) (by kernel_rfl) (by decide) (by kernel_rfl) (by kernel_rfl) (fun _ _ _ h => h) (Or.inl ⟨by rfl, ?hyf98⟩) (by assumption) ?_
    case hyf98 => (intro w hSw; (try dsimp only at hSw); go_simp; (try with_reducible rfl))
    try simp only [Act.put, List.setIfInBounds_toArray, List.set_cons_zero, List.set_cons_succ]
    refine takeL0 (i := 11) (v := ?vf99) rfl rfl (by kernel_rfl) (by kernel_rfl) (by kernel_rfl) (by decide) (by kernel_rfl) (by kernel_rfl) (fun _ _ _ h => h) (Or.inl ⟨by rfl, ?hyf99⟩) (by assumption) ?_
    case hyf99 => (intro w hSw; (try dsimp only at hSw); go_simp; (try with_reducible rfl))
    try simp only [Act.put, List.setIfInBounds_toArray, List.set_cons_zero, List.set_cons_succ]
    refine takeL0 (i := 12) (v := ?vf910) rfl rfl (by kernel_rfl) (by kernel_rfl) (by kernel_rfl) (by decide) (by kernel_rfl) (by kernel_rfl) (fun _ _ _ h => h) (Or.inl ⟨by rfl, ?hyf910⟩) (by assumption) ?_
    case hyf910 => (intro w hSw; (try dsimp only at hSw); go_simp; (try with_reducible rfl))
    try simp only [Act.put, List.setIfInBounds_toArray, List.set_cons_zero, List.set_cons_succ]
    refine takeL0 (i := 13) (v := ?vf911) rfl rfl (by kernel_rfl) (by kernel_rfl) (by kernel_rfl) (by decide) (by kernel_rfl) (by kernel_rfl) (fun _ _ _ h => h) (Or.inl ⟨by rfl, ?hyf911⟩) (by assumption) ?_
    case hyf911 => (intro w hSw; (try dsimp only at hSw); go_simp; (try with_reducible rfl))
    try simp only [Act.put, List.setIfInBounds_toArray, List.set_cons_zero, List.set_cons_succ]
    refine takeL0 (i := 14) (v := ?vf912) rfl rfl (by kernel_rfl) (by kernel_rfl) (by kernel_rfl) (by decide) (by kernel_rfl) (by kernel_rfl) (fun _ _ _ h => h) (Or.inl ⟨by rfl, ?hyf912⟩) (by assumption) ?_
    case hyf912 => (intro w hSw; (try dsimp only at hSw); go_simp; (try with_reducible rfl))
    try simp only [Act.put, List.setIfInBounds_toArray, List.set_cons_zero, List.set_cons_succ]
    refine takeL0 (i := 15) (v := ?vf913) rfl rfl (by kernel_rfl) (by kernel_rfl) (by kernel_rfl) (by decide) (by kernel_rfl) (by kernel_rfl) (fun _ _ _ h => h) (Or.inl ⟨by rfl, ?hyf913⟩) (by assumption) ?_
    case hyf913 => (intro w hSw; (try dsimp only at hSw); go_simp; (try with_reducible rfl))
    try simp only [Act.put, List.setIfInBounds_toArray, List.set_cons_zero, List.set_cons_succ]
    refine readyL (rs := [16]) (by kernel_rfl) (by simp) ?_
    refine AllReadyL.cons rfl (fun K hK => ?_) AllReadyL.nil
    go_simp
    refine (HC2.out _ (HKj.out _ hk8) (HKl.out _ hk8)).mono ?_
    rintro e y16 ⟨rfl, hy16⟩
    have hk16 : Below Z.heap.size Z y16 := below_trans hk8 hy16
    refine hK.out _ _ ?_ (fun hS4 => ?_)
    · exact ⟨trivial, fun _ => HS.out _ hk16⟩
    clear hK K hS3
    try simp only [Act.put, List.setIfInBounds_toArray, List.set_cons_zero, List.set_cons_succ]
    refine takeL0 (i := 17) (v := ?vf914) rfl rfl (by kernel_rfl) (by kernel_rfl) (by kernel_rfl) (by decide) (by kernel_rfl) (by kernel_rfl) (fun _ _ _ h => h) (Or.inl ⟨by rfl, ?hyf914⟩) (by assumption) ?_
    case hyf914 => (intro w hSw; (try dsimp only at hSw); go_simp; (try with_reducible rfl))
    try simp only [Act.put, List.setIfInBounds_toArray, List.set_cons_zero, List.set_cons_succ]
    refine readyL (rs := [18]) (by kernel_rfl) (by simp) ?_
    refine AllReadyL.cons rfl (fun K hK => ?_) AllReadyL.nil
    have qq := (hk16.block _ (lt_of_block HQ.out)).trans HQ.out
    have r0 : y16.cell? ⟨w.heap.size + 1, 0, none⟩ = some (.int .i64 0) := by rw [cell_of_block qq]; rfl
    have r1 : y16.cell? ⟨w.heap.size + 1, 1, none⟩ = some (.slice none 0 0) := by rw [cell_of_block qq]; rfl
    have rz := fun o => frozen_of_block (o := o) qq
    have rl := lt_of_block qq
    go_simp
    refine hK.out _ _ ?_ (fun hS5 => ?_)
    · exact ⟨trivial, fun _ => HSP.out y16 _ _ hk16⟩
    clear hK K hS4
    try simp only [Act.put, List.setIfInBounds_toArray, List.set_cons_zero, List.set_cons_succ]
    refine readyL (rs := [19]) (by kernel_rfl) (by simp) ?_
    refine AllReadyL.cons rfl (fun K hK => ?_) AllReadyL.nil
    go_simp
    refine hK.out _ _ ?_ (fun hS6 => ?_)
    · exact ⟨trivial, fun h => absurd (h.symm.trans (show _ = true by kernel_rfl)) (by decide)⟩
    clear hK K hS5
    try simp only [Act.put, List.setIfInBounds_toArray, List.set_cons_zero, List.set_cons_succ]
    refine doneL (by kernel_rfl) ?_ _
    have FIN := hid (MadeTO.stored (w := w) (P := w.heap.size + 1) (o := resE 9 ty fr [u, u2, u3]) (T := u2) (HR2.out rfl) (HR3.out rfl) (((hat3.below hy7).below hy8).below hy16) ((((hf3c.below hy7).below hy8).below hy16).mono (below_drew Z).size) (by omega) (by omega) (below_trans HB.out hk16))
    clear HS HSP HB HQ
    go_wp2_with fail
    exact bodyPost_ret (v := .tuple #[.agg #[.int .i64 k6, .slice a6 n6 c6], .bool V]) (by simp [results, Tryd.results121, go_sem, r0, r1]) rfl (by first | exact FIN.out | (rw [HRES.out]; exact FIN.out))
end Go.Proofs.YtffmpjcjmffdeaaDoor
