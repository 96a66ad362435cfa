/- ruleFor: applications, choices, selections; every kind. -/
import Derived.Test.YtffmpjcjmffdeaaDoorRRuA
import Derived.Test.YtffmpjcjmffdeaaDoorRRuC
namespace Go.Proofs.YtffmpjcjmffdeaaDoor
open Go.RowKit

set_option maxRecDepth 100000 in
set_option maxHeartbeats 2000000 in
theorem rule_11 : RuC 11 := by
  intro xs p fps nm num ty fr lb ts v fe us s fu w hsc hat hus hlen hvl
  have hA : ∀ b ∈ fe ++ (fps ++ fu), b < w.heap.size := fun b hb => by
    rcases List.mem_append.1 hb with h | h
    · exact hat.lt b h
    · rcases List.mem_append.1 h with h | h
      · exact hsc.lt b h
      · exact hus.lt b h
  obtain ⟨k1, n1, a1, c1, k2, n2, a2, c2, a3, c3, f1, f2, f3, rfl, hnm, ht1, ht2, rfl, hs3⟩ := hat.parts
  have HB := hid (show Below w.heap.size w ((((w.alloc (Obj.cells #[.int .i64 11, .string nm, .int .i64 num, .int .i64 k1, .slice a1 n1 c1, .int .i64 k2, .slice a2 n2 c2, .int .i64 lb, .slice a3 ts.length c3] 35)).alloc (Obj.cells #[.slice none 0 0, .int .i64 0, .slice none 0 0] 135)).alloc (Obj.cells #[.int .i64 2, .slice none 0 0] 32)).alloc (Obj.cells #[.int .i64 3, .slice none 0 0] 32)) from ((((Below.refl _ _).alloc (Nat.le_refl _) _).alloc (by simp) _).alloc (by simp; omega) _).alloc (by simp; omega) _)
  have HSZ := hid (show ((((w.alloc (Obj.cells #[.int .i64 11, .string nm, .int .i64 num, .int .i64 k1, .slice a1 n1 c1, .int .i64 k2, .slice a2 n2 c2, .int .i64 lb, .slice a3 ts.length c3] 35)).alloc (Obj.cells #[.slice none 0 0, .int .i64 0, .slice none 0 0] 135)).alloc (Obj.cells #[.int .i64 2, .slice none 0 0] 32)).alloc (Obj.cells #[.int .i64 3, .slice none 0 0] 32)).heap.size = w.heap.size + 1 + 1 + 1 + 1 by simp)
  have HQ := hid (four_out (Below.refl _ ((((w.alloc (Obj.cells #[.int .i64 11, .string nm, .int .i64 num, .int .i64 k1, .slice a1 n1 c1, .int .i64 k2, .slice a2 n2 c2, .int .i64 lb, .slice a3 ts.length c3] 35)).alloc (Obj.cells #[.slice none 0 0, .int .i64 0, .slice none 0 0] 135)).alloc (Obj.cells #[.int .i64 2, .slice none 0 0] 32)).alloc (Obj.cells #[.int .i64 3, .slice none 0 0] 32)))).2.1
  obtain ⟨z0, z1, z2, z3, z4, z5, z6, z7, z8⟩ := cells9 (four_out (Below.refl _ ((((w.alloc (Obj.cells #[.int .i64 11, .string nm, .int .i64 num, .int .i64 k1, .slice a1 n1 c1, .int .i64 k2, .slice a2 n2 c2, .int .i64 lb, .slice a3 ts.length c3] 35)).alloc (Obj.cells #[.slice none 0 0, .int .i64 0, .slice none 0 0] 135)).alloc (Obj.cells #[.int .i64 2, .slice none 0 0] 32)).alloc (Obj.cells #[.int .i64 3, .slice none 0 0] 32)))).1
  have hl0 : us.length = 1 := by have : kidsM 11 = 1 := (by decide); omega
  obtain ⟨u, rfl⟩ := List.length_eq_one_iff.1 hl0
  have HUS := hid hus
  obtain ⟨sa, sc, hss, hcap, hmx, hget⟩ := hus.openA
  subst hss
  obtain ⟨bx, ox, kx, nx, ax, cx, gx, hpx, hltx, ex0, ex1, hkx, hsubx⟩ := hget 0 (by simp)
  subst hpx
  simp only [Nat.zero_mul, Nat.add_zero, List.getElem_cons_zero, List.length_cons, List.length_nil, Nat.zero_add] at *
  have x0 := cell_keep ex0 HB.out
  have x1 := cell_keep ex1 HB.out
  have HX := hid hkx
  have HV := hid (hvl u (by simp))
  have HG := hid (show ∀ b ∈ gx, b ∈ (f1 ++ (f2 ++ f3)) ++ (fps ++ fu) from fun b hb => by simp [hsubx b hb])
  have HA := hid hA
  have HR := hid (show ruleM xs 11 nm ty fr [u] = (if mtOk 5 u = true then some ([.mk 5 [mtOf 5 0 u, mtOf 5 1 u]], if (11 : Int) = 12 then mtOf 5 1 u else mtOf 5 0 u) else none) from rfl)
  rw [HR.out]
  generalize hO : (if mtOk 5 u = true then some ([Ty.mk 5 [mtOf 5 0 u, mtOf 5 1 u]], if (11 : Int) = 12 then mtOf 5 1 u else mtOf 5 0 u) else none) = OO
  have HS := hid (fun (w' : World) (v : Value) (fp : List Nat) (h : u.At w' v fp) => selectRule_any 11 u v fp w' h HV.out)
  rw [hO] at HS
  clear hat hus hlen hvl hs3 ht1 ht2 hsc hA hget hkx ex0 ex1 hsubx hcap hmx hl0 hO HR
  go_enter Tryd.func117, Tryd.ntmps117
  go_wp2_with fail
  generalize ((((w.alloc (Obj.cells #[.int .i64 11, .string nm, .int .i64 num, .int .i64 k1, .slice a1 n1 c1, .int .i64 k2, .slice a2 n2 c2, .int .i64 lb, .slice a3 ts.length c3] 35)).alloc (Obj.cells #[.slice none 0 0, .int .i64 0, .slice none 0 0] 135)).alloc (Obj.cells #[.int .i64 2, .slice none 0 0] 32)).alloc (Obj.cells #[.int .i64 3, .slice none 0 0] 32)) = Z at *
  have S0 := hid (show Z.drew.cell? ⟨w.heap.size, 0, none⟩ = some (.int .i64 11) ∧ Z.drew.cell? ⟨bx, ox, none⟩ = some (.int .i64 kx) ∧ Z.drew.cell? ⟨bx, ox + 1, none⟩ = some (.slice ax nx cx) from ⟨cell_keep z0 (below_drew Z), cell_keep x0 (below_drew Z), cell_keep x1 (below_drew Z)⟩)
  go_region_held3 (fun w' => w'.cell? ⟨w.heap.size, 0, none⟩ = some (.int .i64 11) ∧ w'.cell? ⟨bx, ox, none⟩ = some (.int .i64 kx) ∧ w'.cell? ⟨bx, ox + 1, none⟩ = some (.slice ax nx cx))
    ((first | with_reducible exact S0.out | with_reducible exact S1.out | with_reducible exact S2.out _ _ _))
    (first
      | (go_at_call 154; refine (HS.out _ _ _ (HX.out.below HB.out.drew)).mono ?_; rintro e w1 ⟨ws, r, ta, tn, tc, k, n, a, c, g1, g2, rfl, hsl, hr, ho, hsub, hb1⟩; have hb1' : Below Z.heap.size Z w1 := (below_drew _).trans (hb1.mono (below_drew _).size); have qq : w1.heap[w.heap.size + 1]? = some (Obj.cells #[.slice none 0 0, .int .i64 0, .slice none 0 0] 135) := (hb1'.block _ (lt_of_block HQ.out)).trans HQ.out; have r0 : w1.cell? ⟨w.heap.size + 1, 0, none⟩ = some (.slice none 0 0) := (by rw [cell_of_block qq]; rfl); have r1 : w1.cell? ⟨w.heap.size + 1, 1, none⟩ = some (.int .i64 0) := (by rw [cell_of_block qq]; rfl); have r2 : w1.cell? ⟨w.heap.size + 1, 2, none⟩ = some (.slice none 0 0) := (by rw [cell_of_block qq]; rfl); have rz := (fun o => frozen_of_block (o := o) qq); have rl : w.heap.size + 1 < w1.heap.size := lt_of_block qq; have S1 := hid (show w1.cell? ⟨w.heap.size, 0, none⟩ = some (.int .i64 11) ∧ w1.cell? ⟨bx, ox, none⟩ = some (.int .i64 kx) ∧ w1.cell? ⟨bx, ox + 1, none⟩ = some (.slice ax nx cx) from ⟨cell_keep z0 hb1', cell_keep x0 hb1', cell_keep x1 hb1'⟩); have S2 := hid (fun x y z => (show (((w1.setCell ⟨w.heap.size + 1, 0, none⟩ x).setCell ⟨w.heap.size + 1, 1, none⟩ y).setCell ⟨w.heap.size + 1, 2, none⟩ z).cell? ⟨w.heap.size, 0, none⟩ = some (.int .i64 11) ∧ (((w1.setCell ⟨w.heap.size + 1, 0, none⟩ x).setCell ⟨w.heap.size + 1, 1, none⟩ y).setCell ⟨w.heap.size + 1, 2, none⟩ z).cell? ⟨bx, ox, none⟩ = some (.int .i64 kx) ∧ (((w1.setCell ⟨w.heap.size + 1, 0, none⟩ x).setCell ⟨w.heap.size + 1, 1, none⟩ y).setCell ⟨w.heap.size + 1, 2, none⟩ z).cell? ⟨bx, ox + 1, none⟩ = some (.slice ax nx cx) from ⟨(three_set (by omega) _ _ _ _).trans S1.out.1, (three_set (Nat.ne_of_lt (Nat.lt_succ_of_lt hltx)) _ _ _ _).trans S1.out.2.1, (three_set (Nat.ne_of_lt (Nat.lt_succ_of_lt hltx)) _ _ _ _).trans S1.out.2.2⟩))))
  have hbw := below_trans HB.out hb1'
  have FIN := hid (RuO.stored (A := (f1 ++ (f2 ++ f3)) ++ (fps ++ fu)) (w := w) (X := w1) (P := w.heap.size + 1) rfl hsl hr ho (SrcP.of hsub (by show w.heap.size + 1 < Z.heap.size; rw [HSZ.out]; omega) HG.out) HA.out hbw (by omega))
  simp only [put, Nat.zero_add, Nat.reduceAdd] at FIN
  generalize OO.isSome = bb at *
  clear qq hsl hr ho hsub hb1 hb1' hbw HA HG HX HV HS HB HUS S0 S1 S2
  go_wp2_with fail
  exact bodyPost_ret (v := (.tuple #[.agg #[.slice ta tn tc, .int .i64 k, .slice a n c], .bool bb])) (by simp [results, Tryd.results117, go_sem, r0, r1, r2]) rfl FIN.out

set_option maxRecDepth 100000 in
set_option maxHeartbeats 2000000 in
theorem rule_12 : RuC 12 := by
  intro xs p fps nm num ty fr lb ts v fe us s fu w hsc hat hus hlen hvl
  have hA : ∀ b ∈ fe ++ (fps ++ fu), b < w.heap.size := fun b hb => by
    rcases List.mem_append.1 hb with h | h
    · exact hat.lt b h
    · rcases List.mem_append.1 h with h | h
      · exact hsc.lt b h
      · exact hus.lt b h
  obtain ⟨k1, n1, a1, c1, k2, n2, a2, c2, a3, c3, f1, f2, f3, rfl, hnm, ht1, ht2, rfl, hs3⟩ := hat.parts
  have HB := hid (show Below w.heap.size w ((((w.alloc (Obj.cells #[.int .i64 12, .string nm, .int .i64 num, .int .i64 k1, .slice a1 n1 c1, .int .i64 k2, .slice a2 n2 c2, .int .i64 lb, .slice a3 ts.length c3] 35)).alloc (Obj.cells #[.slice none 0 0, .int .i64 0, .slice none 0 0] 135)).alloc (Obj.cells #[.int .i64 2, .slice none 0 0] 32)).alloc (Obj.cells #[.int .i64 3, .slice none 0 0] 32)) from ((((Below.refl _ _).alloc (Nat.le_refl _) _).alloc (by simp) _).alloc (by simp; omega) _).alloc (by simp; omega) _)
  have HSZ := hid (show ((((w.alloc (Obj.cells #[.int .i64 12, .string nm, .int .i64 num, .int .i64 k1, .slice a1 n1 c1, .int .i64 k2, .slice a2 n2 c2, .int .i64 lb, .slice a3 ts.length c3] 35)).alloc (Obj.cells #[.slice none 0 0, .int .i64 0, .slice none 0 0] 135)).alloc (Obj.cells #[.int .i64 2, .slice none 0 0] 32)).alloc (Obj.cells #[.int .i64 3, .slice none 0 0] 32)).heap.size = w.heap.size + 1 + 1 + 1 + 1 by simp)
  have HQ := hid (four_out (Below.refl _ ((((w.alloc (Obj.cells #[.int .i64 12, .string nm, .int .i64 num, .int .i64 k1, .slice a1 n1 c1, .int .i64 k2, .slice a2 n2 c2, .int .i64 lb, .slice a3 ts.length c3] 35)).alloc (Obj.cells #[.slice none 0 0, .int .i64 0, .slice none 0 0] 135)).alloc (Obj.cells #[.int .i64 2, .slice none 0 0] 32)).alloc (Obj.cells #[.int .i64 3, .slice none 0 0] 32)))).2.1
  obtain ⟨z0, z1, z2, z3, z4, z5, z6, z7, z8⟩ := cells9 (four_out (Below.refl _ ((((w.alloc (Obj.cells #[.int .i64 12, .string nm, .int .i64 num, .int .i64 k1, .slice a1 n1 c1, .int .i64 k2, .slice a2 n2 c2, .int .i64 lb, .slice a3 ts.length c3] 35)).alloc (Obj.cells #[.slice none 0 0, .int .i64 0, .slice none 0 0] 135)).alloc (Obj.cells #[.int .i64 2, .slice none 0 0] 32)).alloc (Obj.cells #[.int .i64 3, .slice none 0 0] 32)))).1
  have hl0 : us.length = 1 := by have : kidsM 12 = 1 := (by decide); omega
  obtain ⟨u, rfl⟩ := List.length_eq_one_iff.1 hl0
  have HUS := hid hus
  obtain ⟨sa, sc, hss, hcap, hmx, hget⟩ := hus.openA
  subst hss
  obtain ⟨bx, ox, kx, nx, ax, cx, gx, hpx, hltx, ex0, ex1, hkx, hsubx⟩ := hget 0 (by simp)
  subst hpx
  simp only [Nat.zero_mul, Nat.add_zero, List.getElem_cons_zero, List.length_cons, List.length_nil, Nat.zero_add] at *
  have x0 := cell_keep ex0 HB.out
  have x1 := cell_keep ex1 HB.out
  have HX := hid hkx
  have HV := hid (hvl u (by simp))
  have HG := hid (show ∀ b ∈ gx, b ∈ (f1 ++ (f2 ++ f3)) ++ (fps ++ fu) from fun b hb => by simp [hsubx b hb])
  have HA := hid hA
  have HR := hid (show ruleM xs 12 nm ty fr [u] = (if mtOk 5 u = true then some ([.mk 5 [mtOf 5 0 u, mtOf 5 1 u]], if (12 : Int) = 12 then mtOf 5 1 u else mtOf 5 0 u) else none) from rfl)
  rw [HR.out]
  generalize hO : (if mtOk 5 u = true then some ([Ty.mk 5 [mtOf 5 0 u, mtOf 5 1 u]], if (12 : Int) = 12 then mtOf 5 1 u else mtOf 5 0 u) else none) = OO
  have HS := hid (fun (w' : World) (v : Value) (fp : List Nat) (h : u.At w' v fp) => selectRule_any 12 u v fp w' h HV.out)
  rw [hO] at HS
  clear hat hus hlen hvl hs3 ht1 ht2 hsc hA hget hkx ex0 ex1 hsubx hcap hmx hl0 hO HR
  go_enter Tryd.func117, Tryd.ntmps117
  go_wp2_with fail
  generalize ((((w.alloc (Obj.cells #[.int .i64 12, .string nm, .int .i64 num, .int .i64 k1, .slice a1 n1 c1, .int .i64 k2, .slice a2 n2 c2, .int .i64 lb, .slice a3 ts.length c3] 35)).alloc (Obj.cells #[.slice none 0 0, .int .i64 0, .slice none 0 0] 135)).alloc (Obj.cells #[.int .i64 2, .slice none 0 0] 32)).alloc (Obj.cells #[.int .i64 3, .slice none 0 0] 32)) = Z at *
  have S0 := hid (show Z.drew.cell? ⟨w.heap.size, 0, none⟩ = some (.int .i64 12) ∧ Z.drew.cell? ⟨bx, ox, none⟩ = some (.int .i64 kx) ∧ Z.drew.cell? ⟨bx, ox + 1, none⟩ = some (.slice ax nx cx) from ⟨cell_keep z0 (below_drew Z), cell_keep x0 (below_drew Z), cell_keep x1 (below_drew Z)⟩)
  go_region_held3 (fun w' => w'.cell? ⟨w.heap.size, 0, none⟩ = some (.int .i64 12) ∧ w'.cell? ⟨bx, ox, none⟩ = some (.int .i64 kx) ∧ w'.cell? ⟨bx, ox + 1, none⟩ = some (.slice ax nx cx))
    ((first | with_reducible exact S0.out | with_reducible exact S1.out | with_reducible exact S2.out _ _ _))
    (first
      | (go_at_call 154; refine (HS.out _ _ _ (HX.out.below HB.out.drew)).mono ?_; rintro e w1 ⟨ws, r, ta, tn, tc, k, n, a, c, g1, g2, rfl, hsl, hr, ho, hsub, hb1⟩; have hb1' : Below Z.heap.size Z w1 := (below_drew _).trans (hb1.mono (below_drew _).size); have qq : w1.heap[w.heap.size + 1]? = some (Obj.cells #[.slice none 0 0, .int .i64 0, .slice none 0 0] 135) := (hb1'.block _ (lt_of_block HQ.out)).trans HQ.out; have r0 : w1.cell? ⟨w.heap.size + 1, 0, none⟩ = some (.slice none 0 0) := (by rw [cell_of_block qq]; rfl); have r1 : w1.cell? ⟨w.heap.size + 1, 1, none⟩ = some (.int .i64 0) := (by rw [cell_of_block qq]; rfl); have r2 : w1.cell? ⟨w.heap.size + 1, 2, none⟩ = some (.slice none 0 0) := (by rw [cell_of_block qq]; rfl); have rz := (fun o => frozen_of_block (o := o) qq); have rl : w.heap.size + 1 < w1.heap.size := lt_of_block qq; have S1 := hid (show w1.cell? ⟨w.heap.size, 0, none⟩ = some (.int .i64 12) ∧ w1.cell? ⟨bx, ox, none⟩ = some (.int .i64 kx) ∧ w1.cell? ⟨bx, ox + 1, none⟩ = some (.slice ax nx cx) from ⟨cell_keep z0 hb1', cell_keep x0 hb1', cell_keep x1 hb1'⟩); have S2 := hid (fun x y z => (show (((w1.setCell ⟨w.heap.size + 1, 0, none⟩ x).setCell ⟨w.heap.size + 1, 1, none⟩ y).setCell ⟨w.heap.size + 1, 2, none⟩ z).cell? ⟨w.heap.size, 0, none⟩ = some (.int .i64 12) ∧ (((w1.setCell ⟨w.heap.size + 1, 0, none⟩ x).setCell ⟨w.heap.size + 1, 1, none⟩ y).setCell ⟨w.heap.size + 1, 2, none⟩ z).cell? ⟨bx, ox, none⟩ = some (.int .i64 kx) ∧ (((w1.setCell ⟨w.heap.size + 1, 0, none⟩ x).setCell ⟨w.heap.size + 1, 1, none⟩ y).setCell ⟨w.heap.size + 1, 2, none⟩ z).cell? ⟨bx, ox + 1, none⟩ = some (.slice ax nx cx) from ⟨(three_set (by omega) _ _ _ _).trans S1.out.1, (three_set (Nat.ne_of_lt (Nat.lt_succ_of_lt hltx)) _ _ _ _).trans S1.out.2.1, (three_set (Nat.ne_of_lt (Nat.lt_succ_of_lt hltx)) _ _ _ _).trans S1.out.2.2⟩))))
  have hbw := below_trans HB.out hb1'
  have FIN := hid (RuO.stored (A := (f1 ++ (f2 ++ f3)) ++ (fps ++ fu)) (w := w) (X := w1) (P := w.heap.size + 1) rfl hsl hr ho (SrcP.of hsub (by show w.heap.size + 1 < Z.heap.size; rw [HSZ.out]; omega) HG.out) HA.out hbw (by omega))
  simp only [put, Nat.zero_add, Nat.reduceAdd] at FIN
  generalize OO.isSome = bb at *
  clear qq hsl hr ho hsub hb1 hb1' hbw HA HG HX HV HS HB HUS S0 S1 S2
  go_wp2_with fail
  exact bodyPost_ret (v := (.tuple #[.agg #[.slice ta tn tc, .int .i64 k, .slice a n c], .bool bb])) (by simp [results, Tryd.results117, go_sem, r0, r1, r2]) rfl FIN.out

/-- A meet in a box of its own. -/
def MtX (Z : World) (t : Ty) (bb : Bool) (s15 s16 : Value) (wx : World) : Prop :=
  ∃ b6 k n a c f, s15 = .pointer (some ⟨b6, 0, none⟩) ∧ s16 = .bool bb ∧ wx.heap[b6]? = some (.cells #[.int .i64 k, .slice a n c] 32 (0, 0)) ∧ t.At wx (.agg #[.int .i64 k, .slice a n c]) f ∧ Fresh Z.heap.size wx f ∧ Z.heap.size ≤ b6 ∧ Below Z.heap.size Z wx

theorem mtx_alloc {Z y : World} {B : Nat} {t : Ty} {bb : Bool} {k : Int} {n c : Nat} {a : Option Addr} {f : List Nat} (hat : t.At y (.agg #[.int .i64 k, .slice a n c]) f) (hf : Fresh B y f) (hB : Z.heap.size ≤ B) (hb : Below Z.heap.size Z y) :
    MtX Z t bb (.pointer (some ⟨y.heap.size, 0, none⟩)) (.bool bb) (y.alloc (Obj.cells #[.int .i64 k, .slice a n c] 32)) :=
  have hba := (Below.refl _ y).alloc (Nat.le_refl _) (Obj.cells #[.int .i64 k, .slice a n c] 32)
  ⟨_, k, n, a, c, f, rfl, rfl, alloc_new _ _, hat.below hba, (hf.below hba).mono hB, hb.size, below_trans hb hba⟩

theorem mtx_store {Z y1 y : World} {t : Ty} {bb : Bool} {k : Int} {n c : Nat} {a : Option Addr} {f : List Nat} (hy1 : y1 = (Z.alloc (Obj.cells #[.int .i64 0, .slice none 0 0] 32)).drew) (hat : t.At y (.agg #[.int .i64 k, .slice a n c]) f) (hf : Fresh y1.heap.size y f) (hb : Below y1.heap.size y1 y) :
    MtX Z t bb (.pointer (some ⟨Z.heap.size, 0, none⟩)) (.bool bb) ((y.setCell ⟨Z.heap.size, 0, none⟩ (.int .i64 k)).setCell ⟨Z.heap.size, 1, none⟩ (.slice a n c)) := by
  subst hy1
  have hz : (Z.alloc (Obj.cells #[.int .i64 0, .slice none 0 0] 32)).drew.heap.size = Z.heap.size + 1 := by have h : (Z.alloc (Obj.cells #[.int .i64 0, .slice none 0 0] 32)).heap.size = Z.heap.size + 1 := (by simp); exact h
  have hQ : y.heap[Z.heap.size]? = some (Obj.cells #[.int .i64 0, .slice none 0 0] 32) := (hb.block _ (by rw [hz]; omega)).trans (alloc_new Z _)
  have hne : ∀ b ∈ f, b ≠ Z.heap.size := fun b hm => by have := (hf.2 b hm).1; rw [hz] at this; omega
  have hbz : Below Z.heap.size Z y := (((Below.refl Z.heap.size Z).alloc (Nat.le_refl _) _).drew).trans (hb.mono (by rw [hz]; omega))
  exact ⟨_, k, n, a, c, f, rfl, rfl, heap_setCell_at (heap_setCell_at hQ _) _, (hat.setCell hne _).setCell hne _, ((hf.setCell hne _).setCell hne _).mono (by rw [hz]; omega), Nat.le_refl _, (hbz.setCell (p := ⟨Z.heap.size, 0, none⟩) (Nat.le_refl _) _).setCell (p := ⟨Z.heap.size, 1, none⟩) (Nat.le_refl _) _⟩

set_option maxRecDepth 100000 in
set_option maxHeartbeats 2000000 in
theorem rule_9 : RuC 9 := by
  intro xs p fps nm num ty fr lb ts v fe us s fu w hsc hat hus hlen hvl
  have hA : ∀ b ∈ fe ++ (fps ++ fu), b < w.heap.size := fun b hb => by
    rcases List.mem_append.1 hb with h | h
    · exact hat.lt b h
    · rcases List.mem_append.1 h with h | h
      · exact hsc.lt b h
      · exact hus.lt b h
  obtain ⟨k1, n1, a1, c1, k2, n2, a2, c2, a3, c3, f1, f2, f3, rfl, hnm, ht1, ht2, rfl, hs3⟩ := hat.parts
  have HB := hid (show Below w.heap.size w ((((w.alloc (Obj.cells #[.int .i64 9, .string nm, .int .i64 num, .int .i64 k1, .slice a1 n1 c1, .int .i64 k2, .slice a2 n2 c2, .int .i64 lb, .slice a3 ts.length c3] 35)).alloc (Obj.cells #[.slice none 0 0, .int .i64 0, .slice none 0 0] 135)).alloc (Obj.cells #[.int .i64 2, .slice none 0 0] 32)).alloc (Obj.cells #[.int .i64 3, .slice none 0 0] 32)) from ((((Below.refl _ _).alloc (Nat.le_refl _) _).alloc (by simp) _).alloc (by simp; omega) _).alloc (by simp; omega) _)
  have HSZ := hid (show ((((w.alloc (Obj.cells #[.int .i64 9, .string nm, .int .i64 num, .int .i64 k1, .slice a1 n1 c1, .int .i64 k2, .slice a2 n2 c2, .int .i64 lb, .slice a3 ts.length c3] 35)).alloc (Obj.cells #[.slice none 0 0, .int .i64 0, .slice none 0 0] 135)).alloc (Obj.cells #[.int .i64 2, .slice none 0 0] 32)).alloc (Obj.cells #[.int .i64 3, .slice none 0 0] 32)).heap.size = w.heap.size + 1 + 1 + 1 + 1 by simp)
  have HQ := hid (four_out (Below.refl _ ((((w.alloc (Obj.cells #[.int .i64 9, .string nm, .int .i64 num, .int .i64 k1, .slice a1 n1 c1, .int .i64 k2, .slice a2 n2 c2, .int .i64 lb, .slice a3 ts.length c3] 35)).alloc (Obj.cells #[.slice none 0 0, .int .i64 0, .slice none 0 0] 135)).alloc (Obj.cells #[.int .i64 2, .slice none 0 0] 32)).alloc (Obj.cells #[.int .i64 3, .slice none 0 0] 32)))).2.1
  obtain ⟨z0, z1, z2, z3, z4, z5, z6, z7, z8⟩ := cells9 (four_out (Below.refl _ ((((w.alloc (Obj.cells #[.int .i64 9, .string nm, .int .i64 num, .int .i64 k1, .slice a1 n1 c1, .int .i64 k2, .slice a2 n2 c2, .int .i64 lb, .slice a3 ts.length c3] 35)).alloc (Obj.cells #[.slice none 0 0, .int .i64 0, .slice none 0 0] 135)).alloc (Obj.cells #[.int .i64 2, .slice none 0 0] 32)).alloc (Obj.cells #[.int .i64 3, .slice none 0 0] 32)))).1
  obtain ⟨u, u2, u3, rfl⟩ : ∃ a b c, us = [a, b, c] := by
    have hl0 : us.length = 3 := by have : kidsM 9 = 3 := (by decide); omega
    match us, hl0 with
    | [a, b, c], _ => exact ⟨a, b, c, rfl⟩
  have HUS := hid hus
  obtain ⟨sa, sc, hss, hcap, hmx, hget⟩ := hus.openA
  subst hss
  obtain ⟨bx, ox, kx, nx, ax, cx, gx, hpx, hltx, ex0, ex1, hkx, hsubx⟩ := hget 1 (by simp)
  obtain ⟨bj, oj, kj, nj, aj, cj, gj, hpj, hltj, ej0, ej1, hkj, hsubj⟩ := hget 2 (by simp)
  rw [hpx] at hpj
  simp only [Option.some.injEq, Addr.mk.injEq, and_true] at hpj
  obtain ⟨rfl, rfl⟩ := hpj
  subst hpx
  simp only [Nat.one_mul, Nat.reduceMul, List.getElem_cons_zero, List.getElem_cons_succ, List.length_cons, List.length_nil, Nat.zero_add, Nat.reduceAdd] at *
  have x0 := cell_keep ex0 HB.out
  have x1 := cell_keep ex1 HB.out
  have y0 := cell_keep ej0 HB.out
  have y1 := cell_keep ej1 HB.out
  have HX := hid (And.intro hkx hkj)
  have HN := hid (And.intro (shp_cnt8 (hvl u2 (by simp)) (by omega)) (shp_cnt8 (hvl u3 (by simp)) (by omega)))
  have HA := hid hA
  have HR := hid (show (ruleM xs 9 nm ty fr [u, u2, u3]).isSome = consOf u2 u3 from by show (if consOf u2 u3 = true then _ else none : Option _).isSome = _; cases consOf u2 u3 <;> rfl)
  have HR2 := hid (show ∀ p, ruleM xs 9 nm ty fr [u, u2, u3] = some p → p = ([tB, meetOf u2 u3, meetOf u2 u3], meetOf u2 u3) from fun p h => by
    have h' : (if consOf u2 u3 = true then some ([tB, meetOf u2 u3, meetOf u2 u3], meetOf u2 u3) else none) = some p := h
    by_cases hc : consOf u2 u3 = true
    · rw [if_pos hc] at h'; cases h'; rfl
    · rw [if_neg hc] at h'; cases h')
  have HNB := hid (four_out (Below.refl _ ((((w.alloc (Obj.cells #[.int .i64 9, .string nm, .int .i64 num, .int .i64 k1, .slice a1 n1 c1, .int .i64 k2, .slice a2 n2 c2, .int .i64 lb, .slice a3 ts.length c3] 35)).alloc (Obj.cells #[.slice none 0 0, .int .i64 0, .slice none 0 0] 135)).alloc (Obj.cells #[.int .i64 2, .slice none 0 0] 32)).alloc (Obj.cells #[.int .i64 3, .slice none 0 0] 32)))).2.2.2
  have HMT := hid (fun (w' : World) (hB : Below w.heap.size w w') => implMeetTypes u2 u3 _ _ _ _ w' (HX.out.1.below hB) (HX.out.2.below hB) HN.out.1 HN.out.2)
  generalize consOf u2 u3 = bb at *
  generalize meetOf u2 u3 = mm at *
  clear hat hus hlen hvl hs3 ht1 ht2 hsc hA hget hkx hkj ex0 ex1 ej0 ej1 hsubx hsubj hcap hmx
  go_enter Tryd.func117, Tryd.ntmps117
  go_wp2_with fail
  generalize ((((w.alloc (Obj.cells #[.int .i64 9, .string nm, .int .i64 num, .int .i64 k1, .slice a1 n1 c1, .int .i64 k2, .slice a2 n2 c2, .int .i64 lb, .slice a3 ts.length c3] 35)).alloc (Obj.cells #[.slice none 0 0, .int .i64 0, .slice none 0 0] 135)).alloc (Obj.cells #[.int .i64 2, .slice none 0 0] 32)).alloc (Obj.cells #[.int .i64 3, .slice none 0 0] 32)) = Z at *
  go_cut [15, 16] (fun s15 s16 wx => MtX Z mm bb s15 s16 wx)
  case first =>
    go_region_held3 (fun w' => Below Z.heap.size Z w' ∧ w'.cell? ⟨bx, ox + 2, none⟩ = some (.int .i64 kx) ∧ w'.cell? ⟨bx, ox + 2 + 1, none⟩ = some (.slice ax nx cx) ∧ w'.cell? ⟨bx, ox + 4, none⟩ = some (.int .i64 kj) ∧ w'.cell? ⟨bx, ox + 4 + 1, none⟩ = some (.slice aj nj cj))
      ((refine (fun hB => ⟨hB, cell_keep x0 hB, cell_keep x1 hB, cell_keep y0 hB, cell_keep y1 hB⟩ : Below Z.heap.size Z _ → _) ?_; (first | with_reducible exact below_drew Z | with_reducible exact hk2 | (go_split_ands; first | with_reducible exact Below.alloc (by with_reducible assumption) (Below.size (by with_reducible assumption)) _ | exact (hk2.setCell (p := ⟨Z.heap.size, 0, none⟩) (Nat.le_refl _) _).setCell (p := ⟨Z.heap.size, 1, none⟩) (Nat.le_refl _) _ | exact Below.alloc (by with_reducible assumption) (Below.size (by with_reducible assumption)) _))))
      (first | (go_at_call 77; go_split_ands; refine (HMT.out _ (below_trans HB.out (by assumption))).mono ?_; rintro e y2 ⟨vm, f, rfl, hatm, hfm, hy2⟩; obtain ⟨k, n, a, c, rfl⟩ := hatm.agg; have hk2 : Below Z.heap.size Z y2 := below_trans (by assumption) hy2; (first | (have Q3 : y2.heap[Z.heap.size]? = some (Obj.cells #[.int .i64 0, .slice none 0 0] 32) := (hy2.block Z.heap.size (by first | (show Z.heap.size < (Z.alloc _).heap.size; simp) | simp)).trans (alloc_new Z _); have f0 := (fun o => frozen_of_block (o := o) Q3); have d0 : y2.cell? ⟨Z.heap.size, 0, none⟩ = some (.int .i64 0) := (by rw [cell_of_block Q3]; rfl); have d1' : y2.cell? ⟨Z.heap.size, 1, none⟩ = some (.slice none 0 0) := (by rw [cell_of_block Q3]; rfl); have hl3 := lt_of_block Q3) | skip)))
    all_goals
      repeat (rename (World.cell? _ _ = some _) => hq; clear hq)
      go_wp2_with fail
      go_meet
      first
        | with_reducible exact mtx_alloc hatm hfm (below_drew Z).size hk2
        | with_reducible exact mtx_store rfl hatm hfm hy2
  case rest =>
  obtain ⟨b6, k, n, a, c, f, rfl, rfl, hb6, hatm, hfm, hge, hbc⟩ := hcut
  have hbw := below_trans HB.out hbc
  have m0 : wc.cell? ⟨b6, 0, none⟩ = some (.int .i64 k) := by rw [cell_of_block hb6]; rfl
  have m1 : wc.cell? ⟨b6, 1, none⟩ = some (.slice a n c) := by rw [cell_of_block hb6]; rfl
  have ml := lt_of_block hb6
  have qq : wc.heap[w.heap.size + 1]? = some (Obj.cells #[.slice none 0 0, .int .i64 0, .slice none 0 0] 135) := (hbc.block _ (lt_of_block HQ.out)).trans HQ.out
  have qn : wc.heap[w.heap.size + 1 + 1 + 1]? = some (Obj.cells #[.int .i64 3, .slice none 0 0] 32) := (hbc.block _ (lt_of_block HNB.out)).trans HNB.out
  have r0 : wc.cell? ⟨w.heap.size + 1, 0, none⟩ = some (.slice none 0 0) := (by rw [cell_of_block qq]; rfl)
  have r1 : wc.cell? ⟨w.heap.size + 1, 1, none⟩ = some (.int .i64 0) := (by rw [cell_of_block qq]; rfl)
  have r2 : wc.cell? ⟨w.heap.size + 1, 2, none⟩ = some (.slice none 0 0) := (by rw [cell_of_block qq]; rfl)
  have rz := (fun o => frozen_of_block (o := o) qq)
  have rl : w.heap.size + 1 < wc.heap.size := lt_of_block qq
  have nn0 : wc.cell? ⟨w.heap.size + 1 + 1 + 1, 0, none⟩ = some (.int .i64 3) := by rw [cell_of_block qn]; rfl
  have nn1 : wc.cell? ⟨w.heap.size + 1 + 1 + 1, 1, none⟩ = some (.slice none 0 0) := by rw [cell_of_block qn]; rfl
  have nl : w.heap.size + 1 + 1 + 1 < wc.heap.size := lt_of_block qn
  have hX : (wc.alloc (Obj.cells #[.int .i64 3, .slice none 0 0, .int .i64 k, .slice a n c, .int .i64 k, .slice a n c] 32)).heap[wc.heap.size]? = some (Obj.cells #[.int .i64 3, .slice none 0 0, .int .i64 k, .slice a n c, .int .i64 k, .slice a n c] 32) := alloc_new _ _
  have hbx : Below wc.heap.size wc (wc.alloc (Obj.cells #[.int .i64 3, .slice none 0 0, .int .i64 k, .slice a n c, .int .i64 k, .slice a n c] 32)) := (Below.refl _ _).alloc (Nat.le_refl _) _
  have hfx := hfm.below hbx
  have hP : ∀ b ∈ f, w.heap.size + 1 < b := fun b hb => by have := (hfm.2 b hb).1; have h2 : w.heap.size + 1 < Z.heap.size := (by rw [HSZ.out]; omega); exact Nat.lt_of_lt_of_le h2 this
  have hb6n : b6 ≠ w.heap.size + 1 := by have h2 : w.heap.size + 1 < Z.heap.size := (by rw [HSZ.out]; omega); omega
  have FIN := hid (RuO.stored (A := (f1 ++ (f2 ++ f3)) ++ (fps ++ fu)) (w := w) (X := wc.alloc (Obj.cells #[.int .i64 3, .slice none 0 0, .int .i64 k, .slice a n c, .int .i64 k, .slice a n c] 32)) (P := w.heap.size + 1) HR.out (sl_three hX (leaf_at _ 3 none 0) (hatm.below hbx) (hatm.below hbx)) (hatm.below hbx) HR2.out
    (fun b hb => .inr (by
      have hh : b = wc.heap.size ∨ b ∈ f := by simpa using hb
      rcases hh with h | h
      · subst h; exact ⟨by omega, fun o => frozen_of_block hX⟩
      · exact ⟨hP b h, (hfx.2 b h).2.2⟩)) HA.out (below_trans hbw hbx) (by omega))
  rw [put_alloc _ _ _ _ rl] at FIN
  simp only [put, Nat.zero_add, Nat.reduceAdd] at FIN
  clear qq qn hatm hfm hb6 hbw hX hbx hfx hP HA HX HN HR HR2 HB HNB HUS HMT hge hbc
  go_wp2_with fail
  exact bodyPost_ret (v := (.tuple #[.agg #[.slice (some ⟨wc.heap.size, 0, none⟩) 3 3, .int .i64 k, .slice a n c], .bool bb])) (by simp [results, Tryd.results117, go_sem, r0, r1, r2, rl]) rfl FIN.out

set_option maxRecDepth 100000 in
set_option maxHeartbeats 2000000 in
theorem rule_6 : RuC 6 := by
  intro xs p fps nm num ty fr lb ts v fe us s fu w hsc hat hus hlen hvl
  have hA : ∀ b ∈ fe ++ (fps ++ fu), b < w.heap.size := fun b hb => by
    rcases List.mem_append.1 hb with h | h
    · exact hat.lt b h
    · rcases List.mem_append.1 h with h | h
      · exact hsc.lt b h
      · exact hus.lt b h
  obtain ⟨k1, n1, a1, c1, k2, n2, a2, c2, a3, c3, f1, f2, f3, rfl, hnm, ht1, ht2, rfl, hs3⟩ := hat.parts
  have HB := hid (show Below w.heap.size w ((((w.alloc (Obj.cells #[.int .i64 6, .string nm, .int .i64 num, .int .i64 k1, .slice a1 n1 c1, .int .i64 k2, .slice a2 n2 c2, .int .i64 lb, .slice a3 ts.length c3] 35)).alloc (Obj.cells #[.slice none 0 0, .int .i64 0, .slice none 0 0] 135)).alloc (Obj.cells #[.int .i64 2, .slice none 0 0] 32)).alloc (Obj.cells #[.int .i64 3, .slice none 0 0] 32)) from ((((Below.refl _ _).alloc (Nat.le_refl _) _).alloc (by simp) _).alloc (by simp; omega) _).alloc (by simp; omega) _)
  have HSZ := hid (show ((((w.alloc (Obj.cells #[.int .i64 6, .string nm, .int .i64 num, .int .i64 k1, .slice a1 n1 c1, .int .i64 k2, .slice a2 n2 c2, .int .i64 lb, .slice a3 ts.length c3] 35)).alloc (Obj.cells #[.slice none 0 0, .int .i64 0, .slice none 0 0] 135)).alloc (Obj.cells #[.int .i64 2, .slice none 0 0] 32)).alloc (Obj.cells #[.int .i64 3, .slice none 0 0] 32)).heap.size = w.heap.size + 1 + 1 + 1 + 1 by simp)
  have HQ := hid (four_out (Below.refl _ ((((w.alloc (Obj.cells #[.int .i64 6, .string nm, .int .i64 num, .int .i64 k1, .slice a1 n1 c1, .int .i64 k2, .slice a2 n2 c2, .int .i64 lb, .slice a3 ts.length c3] 35)).alloc (Obj.cells #[.slice none 0 0, .int .i64 0, .slice none 0 0] 135)).alloc (Obj.cells #[.int .i64 2, .slice none 0 0] 32)).alloc (Obj.cells #[.int .i64 3, .slice none 0 0] 32)))).2.1
  obtain ⟨z0, z1, z2, z3, z4, z5, z6, z7, z8⟩ := cells9 (four_out (Below.refl _ ((((w.alloc (Obj.cells #[.int .i64 6, .string nm, .int .i64 num, .int .i64 k1, .slice a1 n1 c1, .int .i64 k2, .slice a2 n2 c2, .int .i64 lb, .slice a3 ts.length c3] 35)).alloc (Obj.cells #[.slice none 0 0, .int .i64 0, .slice none 0 0] 135)).alloc (Obj.cells #[.int .i64 2, .slice none 0 0] 32)).alloc (Obj.cells #[.int .i64 3, .slice none 0 0] 32)))).1
  obtain ⟨u, u2, rfl⟩ : ∃ a b, us = [a, b] := by
    have hl0 : us.length = 2 := by have : kidsM 6 = 2 := (by decide); omega
    match us, hl0 with
    | [a, b], _ => exact ⟨a, b, rfl⟩
  have HUS := hid hus
  obtain ⟨sa, sc, hss, hcap, hmx, hget⟩ := hus.openA
  subst hss
  obtain ⟨bx, ox, kx, nx, ax, cx, gx, hpx, hltx, ex0, ex1, hkx, hsubx⟩ := hget 0 (by simp)
  subst hpx
  simp only [Nat.zero_mul, Nat.add_zero, List.getElem_cons_zero, List.length_cons, List.length_nil, Nat.zero_add, Nat.reduceAdd] at *
  have x0 := cell_keep ex0 HB.out
  have x1 := cell_keep ex1 HB.out
  have HX := hid hkx
  have HMP := hid (implMatchFun u _ gx ((((w.alloc (Obj.cells #[.int .i64 6, .string nm, .int .i64 num, .int .i64 k1, .slice a1 n1 c1, .int .i64 k2, .slice a2 n2 c2, .int .i64 lb, .slice a3 ts.length c3] 35)).alloc (Obj.cells #[.slice none 0 0, .int .i64 0, .slice none 0 0] 135)).alloc (Obj.cells #[.int .i64 2, .slice none 0 0] 32)).alloc (Obj.cells #[.int .i64 3, .slice none 0 0] 32)) (hkx.below HB.out) (shp_cnt8 (hvl u (by simp)) (by omega)))
  have HA := hid hA
  have HO := hid (show (ruleM xs 6 nm ty fr [u, u2]).isSome = mtOk 4 u from by show (if mtOk 4 u = true then _ else none : Option _).isSome = _; cases mtOk 4 u <;> rfl)
  have HO2 := hid (show ∀ p, ruleM xs 6 nm ty fr [u, u2] = some p → p = ([.mk 4 [mtOf 4 0 u, mtOf 4 1 u], mtOf 4 0 u], mtOf 4 1 u) from fun p h => by
    have h' : (if mtOk 4 u = true then some ([.mk 4 [mtOf 4 0 u, mtOf 4 1 u], mtOf 4 0 u], mtOf 4 1 u) else none) = some p := h
    by_cases hc : mtOk 4 u = true
    · rw [if_pos hc] at h'; cases h'; rfl
    · rw [if_neg hc] at h'; cases h')
  generalize ruleM xs 6 nm ty fr [u, u2] = OO at *
  generalize mtOf 4 0 u = T0 at *
  generalize mtOf 4 1 u = T1 at *
  generalize mtOk 4 u = bb at *
  clear hat hus hlen hvl hs3 ht1 ht2 hsc hA hget hkx ex0 ex1 hsubx hcap hmx
  go_enter Tryd.func117, Tryd.ntmps117
  go_wp2_with fail
  refine HMP.out.mono ?_
  rintro e w1 ⟨v1, v2, e1, e2, M, rfl, h1, h2, hf1, hf2, -, -, -, -, hb1⟩
  obtain ⟨q1, m1, p1, d1, rfl⟩ := h1.agg
  obtain ⟨q2, m2, p2, d2, rfl⟩ := h2.agg
  have hQ : w1.heap[w.heap.size + 1]? = some (Obj.cells #[.slice none 0 0, .int .i64 0, .slice none 0 0] 135) := (hb1.block _ (lt_of_block HQ.out)).trans HQ.out
  obtain ⟨g1, g2, -⟩ := fin_a (y := w1) (Obj.cells #[.int .i64 q1, .slice p1 m1 d1] 32) (Obj.cells #[.int .i64 q2, .slice p2 m2 d2] 32)
  have hbz : Below w1.heap.size w1 ((w1.alloc (Obj.cells #[.int .i64 q1, .slice p1 m1 d1] 32)).alloc (Obj.cells #[.int .i64 q2, .slice p2 m2 d2] 32)) := ((Below.refl _ _).alloc (Nat.le_refl _) _).alloc (by simp) _
  have hZs : ((w1.alloc (Obj.cells #[.int .i64 q1, .slice p1 m1 d1] 32)).alloc (Obj.cells #[.int .i64 q2, .slice p2 m2 d2] 32)).heap.size = w1.heap.size + 1 + 1 := by simp
  have hS1 : w.heap.size + 1 + 1 + 1 + 1 ≤ w1.heap.size := by have := hb1.size; rw [HSZ.out] at this; exact this
  have HW := hid (below_trans (below_trans HB.out hb1) hbz)
  have HQZ := hid ((hbz.block _ (lt_of_block hQ)).trans hQ)
  have H1 := hid (h1.below hbz)
  have H2 := hid (h2.below hbz)
  have HF := hid (And.intro (hf1.below hbz) (hf2.below hbz))
  have t0 : ((w1.alloc (Obj.cells #[.int .i64 q1, .slice p1 m1 d1] 32)).alloc (Obj.cells #[.int .i64 q2, .slice p2 m2 d2] 32)).cell? ⟨w1.heap.size, 0, none⟩ = some (.int .i64 q1) := by rw [cell_of_block g1]; rfl
  have t1 : ((w1.alloc (Obj.cells #[.int .i64 q1, .slice p1 m1 d1] 32)).alloc (Obj.cells #[.int .i64 q2, .slice p2 m2 d2] 32)).cell? ⟨w1.heap.size, 1, none⟩ = some (.slice p1 m1 d1) := by rw [cell_of_block g1]; rfl
  have t2 : ((w1.alloc (Obj.cells #[.int .i64 q1, .slice p1 m1 d1] 32)).alloc (Obj.cells #[.int .i64 q2, .slice p2 m2 d2] 32)).cell? ⟨w1.heap.size + 1, 0, none⟩ = some (.int .i64 q2) := by rw [cell_of_block g2]; rfl
  have t3 : ((w1.alloc (Obj.cells #[.int .i64 q1, .slice p1 m1 d1] 32)).alloc (Obj.cells #[.int .i64 q2, .slice p2 m2 d2] 32)).cell? ⟨w1.heap.size + 1, 1, none⟩ = some (.slice p2 m2 d2) := by rw [cell_of_block g2]; rfl
  have HFL := hid (show ∀ b ∈ e1 ++ e2, b < ((w1.alloc (Obj.cells #[.int .i64 q1, .slice p1 m1 d1] 32)).alloc (Obj.cells #[.int .i64 q2, .slice p2 m2 d2] 32)).heap.size from fun b hb => by
    rcases List.mem_append.1 hb with h | h
    · exact (h1.below hbz).lt b h
    · exact (h2.below hbz).lt b h)
  have HFG := hid (show ∀ b ∈ e1 ++ e2, w.heap.size + 1 + 1 ≤ b from fun b hb => by
    rcases List.mem_append.1 hb with h | h
    · have := (hf1.2 b h).1; rw [HSZ.out] at this; omega
    · have := (hf2.2 b h).1; rw [HSZ.out] at this; omega)
  obtain ⟨Z, hZd⟩ : ∃ Z, Z = ((w1.alloc (Obj.cells #[.int .i64 q1, .slice p1 m1 d1] 32)).alloc (Obj.cells #[.int .i64 q2, .slice p2 m2 d2] 32)) := ⟨_, rfl⟩
  rw [← hZd] at t0 t1 t2 t3 hZs HW HQZ H1 H2 HF HFL
  have HZS := hid hZs
  have HS1 := hid hS1
  clear h1 h2 hf1 hf2 hb1 hQ g1 g2 hbz hZs hS1 x0 x1 z0 z1 z2 z3 z4 z5 z6 z7 z8
  go_wp2_with fail
  rw [← hZd]
  clear hZd
  have hw11 : w1.heap.size ≠ w.heap.size + 1 := by have := HS1.out; omega
  have hw12 : w1.heap.size + 1 ≠ w.heap.size + 1 := by have := HS1.out; omega
  have S0 := hid (show Z.drew.cell? ⟨w1.heap.size, 0, none⟩ = some (.int .i64 q1) ∧ Z.drew.cell? ⟨w1.heap.size, 1, none⟩ = some (.slice p1 m1 d1) ∧ Z.drew.cell? ⟨w1.heap.size + 1, 0, none⟩ = some (.int .i64 q2) ∧ Z.drew.cell? ⟨w1.heap.size + 1, 1, none⟩ = some (.slice p2 m2 d2) from ⟨cell_keep t0 (below_drew Z), cell_keep t1 (below_drew Z), cell_keep t2 (below_drew Z), cell_keep t3 (below_drew Z)⟩)
  go_region_held3 (fun w' => w'.cell? ⟨w1.heap.size, 0, none⟩ = some (.int .i64 q1) ∧ w'.cell? ⟨w1.heap.size, 1, none⟩ = some (.slice p1 m1 d1) ∧ w'.cell? ⟨w1.heap.size + 1, 0, none⟩ = some (.int .i64 q2) ∧ w'.cell? ⟨w1.heap.size + 1, 1, none⟩ = some (.slice p2 m2 d2))
    ((first | with_reducible exact S0.out | with_reducible exact S1.out | with_reducible exact S2.out _ | with_reducible exact S3.out _ _ _ _))
    (first | (go_at_call 152; refine (twoPart_any 4 T0 T1 _ _ _ _ _ _ _ _ _ _ _ (H1.out.below (below_drew Z)) (H2.out.below (below_drew Z))).mono ?_; rintro e y2 ⟨a5, g5, rfl, hat5, hsub5, hy2⟩; have hk2 : Below Z.heap.size Z y2 := below_trans (below_drew Z) hy2; have qq : y2.heap[w.heap.size + 1]? = some (Obj.cells #[.slice none 0 0, .int .i64 0, .slice none 0 0] 135) := (hk2.block _ (lt_of_block HQZ.out)).trans HQZ.out; have r0 : y2.cell? ⟨w.heap.size + 1, 0, none⟩ = some (.slice none 0 0) := (by rw [cell_of_block qq]; rfl); have r1 : y2.cell? ⟨w.heap.size + 1, 1, none⟩ = some (.int .i64 0) := (by rw [cell_of_block qq]; rfl); have r2 : y2.cell? ⟨w.heap.size + 1, 2, none⟩ = some (.slice none 0 0) := (by rw [cell_of_block qq]; rfl); have rz := (fun o => frozen_of_block (o := o) qq); have rl : w.heap.size + 1 < y2.heap.size := lt_of_block qq; have S1 := hid (show y2.cell? ⟨w1.heap.size, 0, none⟩ = some (.int .i64 q1) ∧ y2.cell? ⟨w1.heap.size, 1, none⟩ = some (.slice p1 m1 d1) ∧ y2.cell? ⟨w1.heap.size + 1, 0, none⟩ = some (.int .i64 q2) ∧ y2.cell? ⟨w1.heap.size + 1, 1, none⟩ = some (.slice p2 m2 d2) from ⟨cell_keep t0 hk2, cell_keep t1 hk2, cell_keep t2 hk2, cell_keep t3 hk2⟩); have HK := hid (show ∀ W W', (W.cell? ⟨w1.heap.size, 0, none⟩ = some (.int .i64 q1) ∧ W.cell? ⟨w1.heap.size, 1, none⟩ = some (.slice p1 m1 d1) ∧ W.cell? ⟨w1.heap.size + 1, 0, none⟩ = some (.int .i64 q2) ∧ W.cell? ⟨w1.heap.size + 1, 1, none⟩ = some (.slice p2 m2 d2)) → Below W.heap.size W W' → (W'.cell? ⟨w1.heap.size, 0, none⟩ = some (.int .i64 q1) ∧ W'.cell? ⟨w1.heap.size, 1, none⟩ = some (.slice p1 m1 d1) ∧ W'.cell? ⟨w1.heap.size + 1, 0, none⟩ = some (.int .i64 q2) ∧ W'.cell? ⟨w1.heap.size + 1, 1, none⟩ = some (.slice p2 m2 d2)) from fun W W' h hb => ⟨cell_keep h.1 hb, cell_keep h.2.1 hb, cell_keep h.2.2.1 hb, cell_keep h.2.2.2 hb⟩); have S2 := hid (fun o => HK.out y2 (y2.alloc o) S1.out ((Below.refl _ _).alloc (Nat.le_refl _) o)); have S3 := hid (fun x y z o => HK.out (((y2.setCell ⟨w.heap.size + 1, 0, none⟩ x).setCell ⟨w.heap.size + 1, 1, none⟩ y).setCell ⟨w.heap.size + 1, 2, none⟩ z) ((((y2.setCell ⟨w.heap.size + 1, 0, none⟩ x).setCell ⟨w.heap.size + 1, 1, none⟩ y).setCell ⟨w.heap.size + 1, 2, none⟩ z).alloc o) ⟨(three_set hw11 _ _ _ _).trans S1.out.1, (three_set hw11 _ _ _ _).trans S1.out.2.1, (three_set hw12 _ _ _ _).trans S1.out.2.2.1, (three_set hw12 _ _ _ _).trans S1.out.2.2.2⟩ ((Below.refl _ _).alloc (Nat.le_refl _) o))))
  have hX : (y2.alloc (Obj.cells #[.int .i64 4, .slice a5 2 2, .int .i64 q1, .slice p1 m1 d1] 32)).heap[y2.heap.size]? = some (Obj.cells #[.int .i64 4, .slice a5 2 2, .int .i64 q1, .slice p1 m1 d1] 32) := alloc_new _ _
  have hbx : Below y2.heap.size y2 (y2.alloc (Obj.cells #[.int .i64 4, .slice a5 2 2, .int .i64 q1, .slice p1 m1 d1] 32)) := (Below.refl _ _).alloc (Nat.le_refl _) _
  have hbw : Below w.heap.size w (y2.alloc (Obj.cells #[.int .i64 4, .slice a5 2 2, .int .i64 q1, .slice p1 m1 d1] 32)) := below_trans (below_trans HW.out hk2) hbx
  have hzf : ∀ b ∈ e1 ++ e2, ∀ o, (y2.alloc (Obj.cells #[.int .i64 4, .slice a5 2 2, .int .i64 q1, .slice p1 m1 d1] 32)).frozen? ⟨b, o, none⟩ = false := fun b hb o => by
    have hbb := below_trans hk2 hbx
    rw [hbb.frozen (p := ⟨b, o, none⟩) (HFL.out b hb)]
    rcases List.mem_append.1 hb with h | h
    · exact (HF.out.1.2 b h).2.2 o
    · exact (HF.out.2.2 b h).2.2 o
  have FIN := hid (RuO.stored (A := (f1 ++ (f2 ++ f3)) ++ (fps ++ fu)) (w := w) (X := y2.alloc (Obj.cells #[.int .i64 4, .slice a5 2 2, .int .i64 q1, .slice p1 m1 d1] 32)) (P := w.heap.size + 1) HO.out (sl_two hX (hat5.below hbx) ((H1.out.below hk2).below hbx)) ((H2.out.below hk2).below hbx) HO2.out
    (fun b hb => .inr (by
      have hh : b = y2.heap.size ∨ b ∈ g5 ∨ b ∈ e1 ++ e2 := by simpa [or_assoc] using hb
      rcases hh with h | h | h
      · subst h; exact ⟨rl, fun o => frozen_of_block hX⟩
      · rcases hsub5 b h with h' | h'
        · exact ⟨by have := HFG.out b h'; omega, hzf b h'⟩
        · exact ⟨by have h2 : w.heap.size + 1 < Z.heap.size := (by rw [HZS.out]; have := HS1.out; omega); exact Nat.lt_of_lt_of_le h2 h'.1, fun o => (hbx.frozen (p := ⟨b, o, none⟩) (hat5.lt b h)).trans (h'.2 o)⟩
      · exact ⟨by have := HFG.out b h; omega, hzf b h⟩)) HA.out hbw (by omega))
  rw [put_alloc _ _ _ _ rl] at FIN
  simp only [put, Nat.zero_add, Nat.reduceAdd] at FIN
  clear qq hat5 hsub5 hy2 hk2 hX hbx hbw hzf HA HX HMP HO HO2 HB HUS HW HQZ H1 H2 HF HFL HFG HZS HS1 S0 S1 S2 S3 HK
  go_wp2_with fail
  exact bodyPost_ret (v := (.tuple #[.agg #[.slice (some ⟨y2.heap.size, 0, none⟩) 2 2, .int .i64 q2, .slice p2 m2 d2], .bool bb])) (by simp [results, Tryd.results117, go_sem, r0, r1, r2, rl]) rfl FIN.out

theorem rule_any {k : Int} (h1 : 1 ≤ k) (h14 : k ≤ 14) : RuC k := by
  have h : k = 1 ∨ k = 2 ∨ k = 3 ∨ k = 4 ∨ k = 5 ∨ k = 6 ∨ k = 7 ∨ k = 8 ∨ k = 9 ∨ k = 10 ∨ k = 11 ∨ k = 12 ∨ k = 13 ∨ k = 14 := by omega
  rcases h with rfl | rfl | rfl | rfl | rfl | rfl | rfl | rfl | rfl | rfl | rfl | rfl | rfl | rfl
  · exact rule_1
  · exact rule_2
  · exact rule_3
  · exact rule_4
  · exact rule_5
  · exact rule_6
  · exact rule_7
  · exact rule_8
  · exact rule_9
  · exact rule_10
  · exact rule_11
  · exact rule_12
  · exact rule_13
  · exact rule_14
end Go.Proofs.YtffmpjcjmffdeaaDoor
