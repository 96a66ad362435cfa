/- The program's test of a node: part 4. -/
import Derived.Test.YtgmpndpehhbmgaaDoorNdV0
namespace Go.Proofs.YtgmpndpehhbmgaaDoor
open Go.RowKit

set_option maxRecDepth 100000 in
set_option maxHeartbeats 8000000 in
theorem nv_label (j : Nat) (hj1 : 1 ≤ j) (hj2 : j < 14) (nm : ByteArray) (num : Int) (ty fr : Ty) (lb : Int) (ts : List Tm) (v : Value) (fp : List Nat) (w : World) (form : ByteArray) (nk : Nat) (HOP : Hid (Opn form nk)) (hform0 : w.cell? ⟨0, j, none⟩ = some (.string form)) (hat : Tm.At w (.mk j nm num ty fr lb ts) v fp) (hl : nk = ts.length) (HRN : Hid ((if showsB form 110 = true then isNm nm else nm.toList.isEmpty) = true)) (hnum : 0 ≤ num) (HRM : Hid ((if showsB form 100 = true then decide (num ≤ 999) else num == 0) = true)) (HRT : Hid ((if showsB form 116 = true then vld ty else noTy ty) = true)) (HF : Hid (noTy fr = true)) :
    Calls Tryd.prog 150 #[v] w fun e w' => e = .returned (.bool (lb == 0)) ∧ Below w.heap.size w w' := by
  obtain ⟨k1, n1, a1, c1, k2, n2, a2, c2, a3, c3, f1, f2, f3, rfl, hnm, ht1, ht2, rfl, hs⟩ := hat.parts
  obtain ⟨a, cap, hss, hc, hm, hget⟩ := hs.open
  cases hss
  clear hget hs hat
  have hb0 : Below w.heap.size w (w.alloc (Obj.cells #[.int .i64 (j : Int), .string nm, .int .i64 num, .int .i64 k1, .slice a1 n1 c1, .int .i64 k2, .slice a2 n2 c2, .int .i64 lb, .slice a3 ts.length c3] 40)) := (Below.refl _ _).alloc (Nat.le_refl _) _
  have hk1 : ¬ (j : Int) < 1 := by omega
  have hk2 : ¬ (j : Int) > 13 := by omega
  have hform : ((w.alloc (Obj.cells #[.int .i64 (j : Int), .string nm, .int .i64 num, .int .i64 k1, .slice a1 n1 c1, .int .i64 k2, .slice a2 n2 c2, .int .i64 lb, .slice a3 ts.length c3] 40))).cell? ⟨0, j, none⟩ = some (.string form) := cell_keep hform0 hb0
  clear hform0
  subst hl
  obtain ⟨z0, z1, z2, z3, z4, z5, z6, z7, z8⟩ := box9 (Below.refl (w.alloc (Obj.cells #[.int .i64 (j : Int), .string nm, .int .i64 num, .int .i64 k1, .slice a1 n1 c1, .int .i64 k2, .slice a2 n2 c2, .int .i64 lb, .slice a3 ts.length c3] 40)).heap.size (w.alloc (Obj.cells #[.int .i64 (j : Int), .string nm, .int .i64 num, .int .i64 k1, .slice a1 n1 c1, .int .i64 k2, .slice a2 n2 c2, .int .i64 lb, .slice a3 ts.length c3] 40)))
  go_enter Tryd.func150, Tryd.ntmps150
  go_wp2_with fail
  (first | go_region_held3 (fun w' => Below (w.alloc (Obj.cells #[.int .i64 (j : Int), .string nm, .int .i64 num, .int .i64 k1, .slice a1 n1 c1, .int .i64 k2, .slice a2 n2 c2, .int .i64 lb, .slice a3 ts.length c3] 40)).heap.size (w.alloc (Obj.cells #[.int .i64 (j : Int), .string nm, .int .i64 num, .int .i64 k1, .slice a1 n1 c1, .int .i64 k2, .slice a2 n2 c2, .int .i64 lb, .slice a3 ts.length c3] 40)) w' ∧ w'.cell? ⟨w.heap.size, 0, none⟩ = some (.int .i64 (j : Int)) ∧ w'.cell? ⟨w.heap.size, 1, none⟩ = some (.string nm) ∧ w'.cell? ⟨w.heap.size, 2, none⟩ = some (.int .i64 num) ∧ w'.cell? ⟨w.heap.size, 3, none⟩ = some (.int .i64 k1) ∧ w'.cell? ⟨w.heap.size, 4, none⟩ = some (.slice a1 n1 c1) ∧ w'.cell? ⟨w.heap.size, 5, none⟩ = some (.int .i64 k2) ∧ w'.cell? ⟨w.heap.size, 6, none⟩ = some (.slice a2 n2 c2) ∧ w'.cell? ⟨w.heap.size, 7, none⟩ = some (.int .i64 lb) ∧ w'.cell? ⟨w.heap.size, 8, none⟩ = some (.slice a3 ts.length c3)) ((refine (fun hB => ⟨hB, cell_keep z0 hB, cell_keep z1 hB, cell_keep z2 hB, cell_keep z3 hB, cell_keep z4 hB, cell_keep z5 hB, cell_keep z6 hB, cell_keep z7 hB, cell_keep z8 hB⟩ : Below (w.alloc (Obj.cells #[.int .i64 (j : Int), .string nm, .int .i64 num, .int .i64 k1, .slice a1 n1 c1, .int .i64 k2, .slice a2 n2 c2, .int .i64 lb, .slice a3 ts.length c3] 40)).heap.size (w.alloc (Obj.cells #[.int .i64 (j : Int), .string nm, .int .i64 num, .int .i64 k1, .slice a1 n1 c1, .int .i64 k2, .slice a2 n2 c2, .int .i64 lb, .slice a3 ts.length c3] 40)) _ → _) ?_; (first | exact below_drew _ | exact hk1 | exact hk2 | exact hk3))) (first | (go_at_call 156; refine (operandsIn_any _ _ HOP.out _).mono ?_; rintro e w1 ⟨rfl, rfl⟩) | (go_at_call 118; refine (shows_any _ _ _).mono ?_; rintro e w1 ⟨rfl, rfl⟩) | (go_at_call 82; refine (isName_any _ hnm _).mono ?_; rintro e w1 ⟨rfl, rfl⟩) | (go_at_call 157; (first | refine (validOrZero_to HRN.out _).mono ?_ | refine (validOrZero_to HRM.out _).mono ?_ | refine (validOrZero_to HRT.out _).mono ?_); rintro e w1 ⟨rfl, rfl⟩) | (go_at_call 77; refine (implTypeValid_any ty _ _ _ (ht1.below (below_trans hb0 (below_drew _)))).mono ?_; rintro e w1 ⟨rfl, hb1⟩; have hk1 := below_trans (below_drew _) hb1) | (go_at_call_of 158 (Value.agg #[.int .i64 k1, .slice a1 n1 c1]); refine (isZeroType_any ty _ _ _ (ht1.below (below_trans hb0 hk1))).mono ?_; rintro e w2 ⟨rfl, hb2⟩; have hk2 := below_trans hk1 hb2) | (go_at_call_of 158 (Value.agg #[.int .i64 k2, .slice a2 n2 c2]); refine (isZeroType_any fr _ _ _ (ht2.below (below_trans hb0 hk2))).mono ?_; rw [HF.out]; rintro e w3 ⟨rfl, hb3⟩; have hk3 := below_trans hk2 hb3)) | fail)
  go_wp2_with fail
  go_ret
  exact ⟨rfl, below_trans hb0 hk3⟩

end Go.Proofs.YtgmpndpehhbmgaaDoor
