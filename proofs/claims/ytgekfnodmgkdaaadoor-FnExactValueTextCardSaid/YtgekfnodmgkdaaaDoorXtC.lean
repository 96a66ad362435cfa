/- The specification's l2Cast: the text of a cast's types and label. -/
import Derived.Test.YtgekfnodmgkdaaaDoorXtL
import Derived.Deep.RegionHeld3
namespace Go.Proofs.YtgekfnodmgkdaaaDoor
open Go.RowKit

set_option linter.unusedSimpArgs false in
set_option maxRecDepth 100000 in
set_option maxHeartbeats 2000000 in
theorem l2Cast_any (nm : ByteArray) (num : Int) (ty fr : Ty) (lb : Int) (ts : List Tm) (v : Value) (fp : List Nat) (w : World) (hat : Tm.At w (.mk 14 nm num ty fr lb ts) v fp) (hty : vld ty = true) (hfr : vld fr = true) (hlb : -99 ≤ lb ∧ lb ≤ 99) :
    Calls Tryd.prog 198 #[v] w fun e w' => e = .returned (.string ⟨(58 :: (txt 4 fr ++ (126 :: (txt 4 ty ++ (35 :: (Lib.itoa lb ++ [41])))))).toArray⟩) ∧ Below w.heap.size w w' := by
  obtain ⟨k1, n1, a1, c1, k2, n2, a2, c2, a3, c3, f1, f2, f3, rfl, hnm, ht1, ht2, rfl, hs⟩ := hat.parts
  have hb0 : Below w.heap.size w (w.alloc (Obj.cells #[.int .i64 14, .string nm, .int .i64 num, .int .i64 k1, .slice a1 n1 c1, .int .i64 k2, .slice a2 n2 c2, .int .i64 lb, .slice a3 ts.length c3] 35)) := (Below.refl _ _).alloc (Nat.le_refl _) _
  have HF1 := hid (ht1.below hb0)
  have HF2 := hid (ht2.below hb0)
  have HTY := hid hty
  have HFR := hid hfr
  have HB := hid hb0
  obtain ⟨SF, hSF⟩ : ∃ S : ByteArray, S = ⟨(txt 4 fr).toArray⟩ := ⟨_, rfl⟩
  obtain ⟨ST, hST⟩ : ∃ S : ByteArray, S = ⟨(txt 4 ty).toArray⟩ := ⟨_, rfl⟩
  have l1 : SF.size ≤ 64 := by rw [hSF]; exact txt_le 4 fr (Nat.le_refl _)
  have l2 : ST.size ≤ 64 := by rw [hST]; exact txt_le 4 ty (Nat.le_refl _)
  have HSF := hid hSF
  have HST := hid hST
  obtain ⟨z0, z1, z2, z3, z4, z5, z6, z7, z8⟩ := box9 (Below.refl (w.alloc (Obj.cells #[.int .i64 14, .string nm, .int .i64 num, .int .i64 k1, .slice a1 n1 c1, .int .i64 k2, .slice a2 n2 c2, .int .i64 lb, .slice a3 ts.length c3] 35)).heap.size (w.alloc (Obj.cells #[.int .i64 14, .string nm, .int .i64 num, .int .i64 k1, .slice a1 n1 c1, .int .i64 k2, .slice a2 n2 c2, .int .i64 lb, .slice a3 ts.length c3] 35)))
  clear hat ht1 ht2 hs hSF hST hty hfr hb0 hnm
  by_cases hn : lb < 0
  · obtain ⟨u, rfl⟩ : ∃ u : Nat, lb = -(u : Int) := ⟨lb.natAbs, by omega⟩
    have q : u ≤ 99 := by omega
    have HD := hid (l18Dec_nat u (by omega))
    have hl := Lib.itoa_length_le (u : Int) (by omega) (by omega)
    rw [Lib.itoa_nonneg] at hl
    obtain ⟨SN, hSN⟩ : ∃ S : ByteArray, S = ⟨(Lib.decDigits u).toArray⟩ := ⟨_, rfl⟩
    have l3 : SN.size ≤ 21 := by rw [hSN]; exact hl
    have HN := hid hSN
    rw [← hSN] at HD
    clear hSN hl
    have hneg : (-(u : Int)) < 0 := by omega
    have hnn : - -(u : Int) = (u : Int) := by omega
    have hwr : IntKind.i64.wrap (u : Int) = (u : Int) := by rw [IntKind.wrap_i64]; omega
    have hwr2 : IntKind.i64.wrap (- -(u : Int)) = (u : Int) := by rw [hnn]; exact hwr
    have q0 : ¬ (9223372036854775807 < 1 + SF.size) := by omega
    have q1 : ¬ (9223372036854775807 < 1 + SF.size + 1) := by omega
    have q2 : ¬ (9223372036854775807 < 1 + SF.size + 1 + ST.size) := by omega
    have q3 : ¬ (9223372036854775807 < 1 + SF.size + 1 + ST.size + 1) := by omega
    have q4 : ¬ (9223372036854775807 < 1 + SF.size + 1 + ST.size + 1 + 1) := by omega
    have q5 : ¬ (9223372036854775807 < 1 + SF.size + 1 + ST.size + 1 + 1 + SN.size) := by omega
    have q6 : ¬ (9223372036854775807 < 1 + SF.size + 1 + ST.size + 1 + 1 + SN.size + 1) := by omega
    go_enter Tryd.func198, Tryd.ntmps198
    go_wp2_with fail
    go_region_held3 (fun w' => Below (w.alloc (Obj.cells #[.int .i64 14, .string nm, .int .i64 num, .int .i64 k1, .slice a1 n1 c1, .int .i64 k2, .slice a2 n2 c2, .int .i64 (-(u : Int)), .slice a3 ts.length c3] 35)).heap.size (w.alloc (Obj.cells #[.int .i64 14, .string nm, .int .i64 num, .int .i64 k1, .slice a1 n1 c1, .int .i64 k2, .slice a2 n2 c2, .int .i64 (-(u : Int)), .slice a3 ts.length c3] 35)) w' ∧ w'.cell? ⟨w.heap.size, 0, none⟩ = some (.int .i64 14) ∧ w'.cell? ⟨w.heap.size, 1, none⟩ = some (.string nm) ∧ w'.cell? ⟨w.heap.size, 2, none⟩ = some (.int .i64 num) ∧ w'.cell? ⟨w.heap.size, 3, none⟩ = some (.int .i64 k1) ∧ w'.cell? ⟨w.heap.size, 4, none⟩ = some (.slice a1 n1 c1) ∧ w'.cell? ⟨w.heap.size, 5, none⟩ = some (.int .i64 k2) ∧ w'.cell? ⟨w.heap.size, 6, none⟩ = some (.slice a2 n2 c2) ∧ w'.cell? ⟨w.heap.size, 7, none⟩ = some (.int .i64 (-(u : Int))) ∧ w'.cell? ⟨w.heap.size, 8, none⟩ = some (.slice a3 ts.length c3))
      ((refine (fun hB => ⟨hB, cell_keep z0 hB, cell_keep z1 hB, cell_keep z2 hB, cell_keep z3 hB, cell_keep z4 hB, cell_keep z5 hB, cell_keep z6 hB, cell_keep z7 hB, cell_keep z8 hB⟩ : Below (w.alloc (Obj.cells #[.int .i64 14, .string nm, .int .i64 num, .int .i64 k1, .slice a1 n1 c1, .int .i64 k2, .slice a2 n2 c2, .int .i64 (-(u : Int)), .slice a3 ts.length c3] 35)).heap.size (w.alloc (Obj.cells #[.int .i64 14, .string nm, .int .i64 num, .int .i64 k1, .slice a1 n1 c1, .int .i64 k2, .slice a2 n2 c2, .int .i64 (-(u : Int)), .slice a3 ts.length c3] 35)) _ → _) ?_; (first | exact below_drew _ | exact hk1 | exact hk2 | exact hk3)))
      (first
        | (go_at_call_of 197 (Value.agg #[.int .i64 k2, .slice a2 n2 c2]); refine (l1Text_any 4 fr _ f2 _ (Nat.le_refl _) HFR.out (HF2.out.below (below_drew _))).mono ?_; rw [← HSF.out]; rintro e w1 ⟨rfl, hy1⟩; have hk1 := below_trans (below_drew _) hy1)
        | (go_at_call_of 197 (Value.agg #[.int .i64 k1, .slice a1 n1 c1]); refine (l1Text_any 4 ty _ f1 _ (Nat.le_refl _) HTY.out (HF1.out.below hk1)).mono ?_; rw [← HST.out]; rintro e w2 ⟨rfl, hy2⟩; have hk2 := below_trans hk1 hy2)
        | (go_at_call 120; refine (HD.out _).mono ?_; rintro e w3 ⟨rfl, hy3⟩; have hk3 := below_trans hk2 hy3))
    go_wp2_with fail
    go_ret
    refine ⟨ret_s ?_, HB.out.trans (hk3.mono HB.out.size)⟩
    rw [HSF.out, HST.out, HN.out, Lib.itoa_neg u (by omega)]
    apply ByteArray.ext
    simp [ByteArray.data_append]
  · obtain ⟨u, rfl⟩ : ∃ u : Nat, lb = (u : Int) := ⟨lb.toNat, by omega⟩
    have q : u ≤ 99 := by omega
    have HD := hid (l18Dec_nat u (by omega))
    have hl := Lib.itoa_length_le (u : Int) (by omega) (by omega)
    rw [Lib.itoa_nonneg] at hl
    obtain ⟨SN, hSN⟩ : ∃ S : ByteArray, S = ⟨(Lib.decDigits u).toArray⟩ := ⟨_, rfl⟩
    have l3 : SN.size ≤ 21 := by rw [hSN]; exact hl
    have HN := hid hSN
    rw [← hSN] at HD
    clear hSN hl
    have hneg : ¬ ((u : Int) < 0) := by omega
    have q0 : ¬ (9223372036854775807 < 1 + SF.size) := by omega
    have q1 : ¬ (9223372036854775807 < 1 + SF.size + 1) := by omega
    have q2 : ¬ (9223372036854775807 < 1 + SF.size + 1 + ST.size) := by omega
    have q3 : ¬ (9223372036854775807 < 1 + SF.size + 1 + ST.size + 1) := by omega
    have q5 : ¬ (9223372036854775807 < 1 + SF.size + 1 + ST.size + 1 + SN.size) := by omega
    have q6 : ¬ (9223372036854775807 < 1 + SF.size + 1 + ST.size + 1 + SN.size + 1) := by omega
    go_enter Tryd.func198, Tryd.ntmps198
    go_wp2_with fail
    go_region_held3 (fun w' => Below (w.alloc (Obj.cells #[.int .i64 14, .string nm, .int .i64 num, .int .i64 k1, .slice a1 n1 c1, .int .i64 k2, .slice a2 n2 c2, .int .i64 (u : Int), .slice a3 ts.length c3] 35)).heap.size (w.alloc (Obj.cells #[.int .i64 14, .string nm, .int .i64 num, .int .i64 k1, .slice a1 n1 c1, .int .i64 k2, .slice a2 n2 c2, .int .i64 (u : Int), .slice a3 ts.length c3] 35)) w' ∧ w'.cell? ⟨w.heap.size, 0, none⟩ = some (.int .i64 14) ∧ w'.cell? ⟨w.heap.size, 1, none⟩ = some (.string nm) ∧ w'.cell? ⟨w.heap.size, 2, none⟩ = some (.int .i64 num) ∧ w'.cell? ⟨w.heap.size, 3, none⟩ = some (.int .i64 k1) ∧ w'.cell? ⟨w.heap.size, 4, none⟩ = some (.slice a1 n1 c1) ∧ w'.cell? ⟨w.heap.size, 5, none⟩ = some (.int .i64 k2) ∧ w'.cell? ⟨w.heap.size, 6, none⟩ = some (.slice a2 n2 c2) ∧ w'.cell? ⟨w.heap.size, 7, none⟩ = some (.int .i64 (u : Int)) ∧ w'.cell? ⟨w.heap.size, 8, none⟩ = some (.slice a3 ts.length c3))
      ((refine (fun hB => ⟨hB, cell_keep z0 hB, cell_keep z1 hB, cell_keep z2 hB, cell_keep z3 hB, cell_keep z4 hB, cell_keep z5 hB, cell_keep z6 hB, cell_keep z7 hB, cell_keep z8 hB⟩ : Below (w.alloc (Obj.cells #[.int .i64 14, .string nm, .int .i64 num, .int .i64 k1, .slice a1 n1 c1, .int .i64 k2, .slice a2 n2 c2, .int .i64 (u : Int), .slice a3 ts.length c3] 35)).heap.size (w.alloc (Obj.cells #[.int .i64 14, .string nm, .int .i64 num, .int .i64 k1, .slice a1 n1 c1, .int .i64 k2, .slice a2 n2 c2, .int .i64 (u : Int), .slice a3 ts.length c3] 35)) _ → _) ?_; (first | exact below_drew _ | exact hk1 | exact hk2 | exact hk3)))
      (first
        | (go_at_call_of 197 (Value.agg #[.int .i64 k2, .slice a2 n2 c2]); refine (l1Text_any 4 fr _ f2 _ (Nat.le_refl _) HFR.out (HF2.out.below (below_drew _))).mono ?_; rw [← HSF.out]; rintro e w1 ⟨rfl, hy1⟩; have hk1 := below_trans (below_drew _) hy1)
        | (go_at_call_of 197 (Value.agg #[.int .i64 k1, .slice a1 n1 c1]); refine (l1Text_any 4 ty _ f1 _ (Nat.le_refl _) HTY.out (HF1.out.below hk1)).mono ?_; rw [← HST.out]; rintro e w2 ⟨rfl, hy2⟩; have hk2 := below_trans hk1 hy2)
        | (go_at_call 120; refine (HD.out _).mono ?_; rintro e w3 ⟨rfl, hy3⟩; have hk3 := below_trans hk2 hy3))
    go_wp2_with fail
    go_ret
    refine ⟨ret_s ?_, HB.out.trans (hk3.mono HB.out.size)⟩
    rw [HSF.out, HST.out, HN.out, Lib.itoa_nonneg]
    apply ByteArray.ext
    simp [ByteArray.data_append]
end Go.Proofs.YtgekfnodmgkdaaaDoor
