/- The program's test of a node: part 1. -/
import Derived.Test.YtgmpndpehhbmgaaDoorNdV0
namespace Go.Proofs.YtgmpndpehhbmgaaDoor
open Go.RowKit

set_option maxRecDepth 100000 in
set_option maxHeartbeats 8000000 in
theorem nv_len (j : Nat) (hj1 : 1 ≤ j) (hj2 : j < 14) (nm : ByteArray) (num : Int) (ty fr : Ty) (lb : Int) (ts : List Tm) (v : Value) (fp : List Nat) (w : World) (form : ByteArray) (nk : Nat) (HOP : Hid (Opn form nk)) (hform0 : w.cell? ⟨0, j, none⟩ = some (.string form)) (hat : Tm.At w (.mk j nm num ty fr lb ts) v fp) (hl : ¬ ts.length = nk) :
    Calls Tryd.prog 150 #[v] w fun e w' => e = .returned (.bool false) ∧ Below w.heap.size w w' := by
  obtain ⟨k1, n1, a1, c1, k2, n2, a2, c2, a3, c3, f1, f2, f3, rfl, hnm, ht1, ht2, rfl, hs⟩ := hat.parts
  obtain ⟨a, cap, hss, hc, hm, hget⟩ := hs.open
  cases hss
  clear hget hs hat
  have hb0 : Below w.heap.size w (w.alloc (Obj.cells #[.int .i64 (j : Int), .string nm, .int .i64 num, .int .i64 k1, .slice a1 n1 c1, .int .i64 k2, .slice a2 n2 c2, .int .i64 lb, .slice a3 ts.length c3] 40)) := (Below.refl _ _).alloc (Nat.le_refl _) _
  have hk1 : ¬ (j : Int) < 1 := by omega
  have hk2 : ¬ (j : Int) > 13 := by omega
  have hform : ((w.alloc (Obj.cells #[.int .i64 (j : Int), .string nm, .int .i64 num, .int .i64 k1, .slice a1 n1 c1, .int .i64 k2, .slice a2 n2 c2, .int .i64 lb, .slice a3 ts.length c3] 40))).cell? ⟨0, j, none⟩ = some (.string form) := cell_keep hform0 hb0
  clear hform0
  have hl1 := natbeq_ne hl
  have hl2 : (ts.length == nk) = false := by simpa using hl
  have hl4 : decide (ts.length = nk) = false := by simpa using hl
  go_enter Tryd.func150, Tryd.ntmps150
  go_wp2_with fail
  go_quiet ((first | (go_at_call 156; exact Calls.quiet_of_same (operandsIn_any _ _ HOP.out _)) | (go_at_call 118; exact Calls.quiet_of_same (shows_any _ _ _)) | (go_at_call 82; exact Calls.quiet_of_same (isName_any _ hnm _)) | (go_at_call 157; first | exact Calls.quiet_of_same (validOrZero_to HRN.out _) | exact Calls.quiet_of_same (validOrZero_to HRM.out _) | exact Calls.quiet_of_same (validOrZero_to HRX.out _))))
  go_wp2_with fail
  go_ret
  exact ⟨rfl, belowN hb0 _⟩

set_option maxRecDepth 100000 in
set_option maxHeartbeats 8000000 in
theorem nv_name (j : Nat) (hj1 : 1 ≤ j) (hj2 : j < 14) (nm : ByteArray) (num : Int) (ty fr : Ty) (lb : Int) (ts : List Tm) (v : Value) (fp : List Nat) (w : World) (form : ByteArray) (nk : Nat) (HOP : Hid (Opn form nk)) (hform0 : w.cell? ⟨0, j, none⟩ = some (.string form)) (hat : Tm.At w (.mk j nm num ty fr lb ts) v fp) (hl : nk = ts.length) (HRN : Hid ((if showsB form 110 = true then isNm nm else nm.toList.isEmpty) = false)) :
    Calls Tryd.prog 150 #[v] w fun e w' => e = .returned (.bool false) ∧ Below w.heap.size w w' := by
  obtain ⟨k1, n1, a1, c1, k2, n2, a2, c2, a3, c3, f1, f2, f3, rfl, hnm, ht1, ht2, rfl, hs⟩ := hat.parts
  obtain ⟨a, cap, hss, hc, hm, hget⟩ := hs.open
  cases hss
  clear hget hs hat
  have hb0 : Below w.heap.size w (w.alloc (Obj.cells #[.int .i64 (j : Int), .string nm, .int .i64 num, .int .i64 k1, .slice a1 n1 c1, .int .i64 k2, .slice a2 n2 c2, .int .i64 lb, .slice a3 ts.length c3] 40)) := (Below.refl _ _).alloc (Nat.le_refl _) _
  have hk1 : ¬ (j : Int) < 1 := by omega
  have hk2 : ¬ (j : Int) > 13 := by omega
  have hform : ((w.alloc (Obj.cells #[.int .i64 (j : Int), .string nm, .int .i64 num, .int .i64 k1, .slice a1 n1 c1, .int .i64 k2, .slice a2 n2 c2, .int .i64 lb, .slice a3 ts.length c3] 40))).cell? ⟨0, j, none⟩ = some (.string form) := cell_keep hform0 hb0
  clear hform0
  subst hl
  go_enter Tryd.func150, Tryd.ntmps150
  go_wp2_with fail
  go_quiet ((first | (go_at_call 156; exact Calls.quiet_of_same (operandsIn_any _ _ HOP.out _)) | (go_at_call 118; exact Calls.quiet_of_same (shows_any _ _ _)) | (go_at_call 82; exact Calls.quiet_of_same (isName_any _ hnm _)) | (go_at_call 157; first | exact Calls.quiet_of_same (validOrZero_to HRN.out _) | exact Calls.quiet_of_same (validOrZero_to HRM.out _) | exact Calls.quiet_of_same (validOrZero_to HRX.out _))))
  go_wp2_with fail
  go_ret
  exact ⟨rfl, belowN hb0 _⟩

set_option maxRecDepth 100000 in
set_option maxHeartbeats 8000000 in
theorem nv_neg (j : Nat) (hj1 : 1 ≤ j) (hj2 : j < 14) (nm : ByteArray) (num : Int) (ty fr : Ty) (lb : Int) (ts : List Tm) (v : Value) (fp : List Nat) (w : World) (form : ByteArray) (nk : Nat) (HOP : Hid (Opn form nk)) (hform0 : w.cell? ⟨0, j, none⟩ = some (.string form)) (hat : Tm.At w (.mk j nm num ty fr lb ts) v fp) (hl : nk = ts.length) (HRN : Hid ((if showsB form 110 = true then isNm nm else nm.toList.isEmpty) = true)) (hnum : num < 0) :
    Calls Tryd.prog 150 #[v] w fun e w' => e = .returned (.bool false) ∧ Below w.heap.size w w' := by
  obtain ⟨k1, n1, a1, c1, k2, n2, a2, c2, a3, c3, f1, f2, f3, rfl, hnm, ht1, ht2, rfl, hs⟩ := hat.parts
  obtain ⟨a, cap, hss, hc, hm, hget⟩ := hs.open
  cases hss
  clear hget hs hat
  have hb0 : Below w.heap.size w (w.alloc (Obj.cells #[.int .i64 (j : Int), .string nm, .int .i64 num, .int .i64 k1, .slice a1 n1 c1, .int .i64 k2, .slice a2 n2 c2, .int .i64 lb, .slice a3 ts.length c3] 40)) := (Below.refl _ _).alloc (Nat.le_refl _) _
  have hk1 : ¬ (j : Int) < 1 := by omega
  have hk2 : ¬ (j : Int) > 13 := by omega
  have hform : ((w.alloc (Obj.cells #[.int .i64 (j : Int), .string nm, .int .i64 num, .int .i64 k1, .slice a1 n1 c1, .int .i64 k2, .slice a2 n2 c2, .int .i64 lb, .slice a3 ts.length c3] 40))).cell? ⟨0, j, none⟩ = some (.string form) := cell_keep hform0 hb0
  clear hform0
  subst hl
  have h2 : (num == 0) = false := by rw [beq_eq_false_iff_ne]; omega
  have h3 : decide (0 ≤ num) = false := by simp; omega
  have HRM := hid (show (if showsB form 100 = true then false else false) = false by simp)
  have HRX := hid (show (if showsB form 100 = true then false else (num == 0)) = false by rw [h2]; simp)
  go_enter Tryd.func150, Tryd.ntmps150
  go_wp2_with fail
  go_quiet ((first | (go_at_call 156; exact Calls.quiet_of_same (operandsIn_any _ _ HOP.out _)) | (go_at_call 118; exact Calls.quiet_of_same (shows_any _ _ _)) | (go_at_call 82; exact Calls.quiet_of_same (isName_any _ hnm _)) | (go_at_call 157; first | exact Calls.quiet_of_same (validOrZero_to HRN.out _) | exact Calls.quiet_of_same (validOrZero_to HRM.out _) | exact Calls.quiet_of_same (validOrZero_to HRX.out _))))
  go_wp2_with fail
  go_ret
  exact ⟨rfl, belowN hb0 _⟩

set_option maxRecDepth 100000 in
set_option maxHeartbeats 8000000 in
theorem nv_num (j : Nat) (hj1 : 1 ≤ j) (hj2 : j < 14) (nm : ByteArray) (num : Int) (ty fr : Ty) (lb : Int) (ts : List Tm) (v : Value) (fp : List Nat) (w : World) (form : ByteArray) (nk : Nat) (HOP : Hid (Opn form nk)) (hform0 : w.cell? ⟨0, j, none⟩ = some (.string form)) (hat : Tm.At w (.mk j nm num ty fr lb ts) v fp) (hl : nk = ts.length) (HRN : Hid ((if showsB form 110 = true then isNm nm else nm.toList.isEmpty) = true)) (hnum : 0 ≤ num) (HRM : Hid ((if showsB form 100 = true then decide (num ≤ 999) else num == 0) = false)) :
    Calls Tryd.prog 150 #[v] w fun e w' => e = .returned (.bool false) ∧ Below w.heap.size w w' := by
  obtain ⟨k1, n1, a1, c1, k2, n2, a2, c2, a3, c3, f1, f2, f3, rfl, hnm, ht1, ht2, rfl, hs⟩ := hat.parts
  obtain ⟨a, cap, hss, hc, hm, hget⟩ := hs.open
  cases hss
  clear hget hs hat
  have hb0 : Below w.heap.size w (w.alloc (Obj.cells #[.int .i64 (j : Int), .string nm, .int .i64 num, .int .i64 k1, .slice a1 n1 c1, .int .i64 k2, .slice a2 n2 c2, .int .i64 lb, .slice a3 ts.length c3] 40)) := (Below.refl _ _).alloc (Nat.le_refl _) _
  have hk1 : ¬ (j : Int) < 1 := by omega
  have hk2 : ¬ (j : Int) > 13 := by omega
  have hform : ((w.alloc (Obj.cells #[.int .i64 (j : Int), .string nm, .int .i64 num, .int .i64 k1, .slice a1 n1 c1, .int .i64 k2, .slice a2 n2 c2, .int .i64 lb, .slice a3 ts.length c3] 40))).cell? ⟨0, j, none⟩ = some (.string form) := cell_keep hform0 hb0
  clear hform0
  subst hl
  go_enter Tryd.func150, Tryd.ntmps150
  go_wp2_with fail
  go_quiet ((first | (go_at_call 156; exact Calls.quiet_of_same (operandsIn_any _ _ HOP.out _)) | (go_at_call 118; exact Calls.quiet_of_same (shows_any _ _ _)) | (go_at_call 82; exact Calls.quiet_of_same (isName_any _ hnm _)) | (go_at_call 157; first | exact Calls.quiet_of_same (validOrZero_to HRN.out _) | exact Calls.quiet_of_same (validOrZero_to HRM.out _) | exact Calls.quiet_of_same (validOrZero_to HRX.out _))))
  go_wp2_with fail
  go_ret
  exact ⟨rfl, belowN hb0 _⟩

end Go.Proofs.YtgmpndpehhbmgaaDoor
