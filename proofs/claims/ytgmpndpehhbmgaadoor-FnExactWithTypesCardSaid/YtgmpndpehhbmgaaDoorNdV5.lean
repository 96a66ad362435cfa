/- The program's test of a node: nodeValid, for every term. -/
import Derived.Test.YtgmpndpehhbmgaaDoorNdV1
import Derived.Test.YtgmpndpehhbmgaaDoorNdV2
import Derived.Test.YtgmpndpehhbmgaaDoorNdV3
import Derived.Test.YtgmpndpehhbmgaaDoorNdV4
namespace Go.Proofs.YtgmpndpehhbmgaaDoor
open Go.RowKit

set_option maxHeartbeats 1000000 in
theorem nodeValid_any (k : Int) (nm : ByteArray) (num : Int) (ty fr : Ty) (lb : Int) (ts : List Tm) (v : Value) (fp : List Nat) (w : World) (hF : Forms w) (hat : Tm.At w (.mk k nm num ty fr lb ts) v fp) :
    Calls Tryd.prog 150 #[v] w fun e w' => e = .returned (.bool (nodeB k nm num ty fr lb ts.length)) ∧ Below w.heap.size w w' := by
  by_cases hk : 1 ≤ k ∧ k ≤ 13
  case neg =>
    have HR := hid (nodeB_low hk nm num ty fr lb ts.length)
    obtain ⟨k1, n1, a1, c1, k2, n2, a2, c2, a3, c3, f1, f2, f3, rfl, hnm, ht1, ht2, rfl, hs⟩ := hat.parts
    have hb0 : Below w.heap.size w (w.alloc (Obj.cells #[.int .i64 k, .string nm, .int .i64 num, .int .i64 k1, .slice a1 n1 c1, .int .i64 k2, .slice a2 n2 c2, .int .i64 lb, .slice a3 ts.length c3] 40)) := (Below.refl _ _).alloc (Nat.le_refl _) _
    by_cases hk0 : k < 1
    · go_enter Tryd.func150, Tryd.ntmps150
      go_wp2_with fail
      go_ret
      exact ⟨ret_b HR.out.symm, hb0⟩
    · have hk13 : k > 13 := by omega
      go_enter Tryd.func150, Tryd.ntmps150
      go_wp2_with fail
      go_ret
      exact ⟨ret_b HR.out.symm, hb0⟩
  obtain ⟨j, rfl⟩ : ∃ j : Nat, k = (j : Int) := ⟨k.toNat, by omega⟩
  have hj1 : 1 ≤ j := by omega
  have hj2 : j < 14 := by omega
  obtain ⟨nk, hnk, hopn⟩ := frm_opn j hj1 hj2
  have HOP := hid hopn
  have HE := nodeB_eq j hj1 hj2 nm num ty fr lb ts.length
  have hform := hF j hj2
  rw [hnk] at HE
  generalize frm j = form at *
  by_cases hl : nk = ts.length
  case neg =>
    rw [natbeq_ne hl] at HE
    simp only [Bool.false_and] at HE
    rw [HE]
    exact nv_len j hj1 hj2 nm num ty fr lb ts v fp w form nk HOP hform hat (fun h => hl h.symm)
  rw [natbeq_eq hl, Bool.true_and] at HE
  cases hN : (if showsB form 110 = true then isNm nm else nm.toList.isEmpty)
  · rw [hN] at HE
    simp only [Bool.false_and] at HE
    rw [HE]
    exact nv_name j hj1 hj2 nm num ty fr lb ts v fp w form nk HOP hform hat hl (hid hN)
  rw [hN, Bool.true_and] at HE
  by_cases hnum : 0 ≤ num
  case neg =>
    rw [num_bad hnum] at HE
    simp only [Bool.false_and] at HE
    rw [HE]
    exact nv_neg j hj1 hj2 nm num ty fr lb ts v fp w form nk HOP hform hat hl (hid hN) (by omega)
  rw [num_good hnum] at HE
  cases hM : (if showsB form 100 = true then decide (num ≤ 999) else num == 0)
  · rw [hM] at HE
    simp only [Bool.false_and] at HE
    rw [HE]
    exact nv_num j hj1 hj2 nm num ty fr lb ts v fp w form nk HOP hform hat hl (hid hN) hnum (hid hM)
  rw [hM, Bool.true_and] at HE
  cases hT : (if showsB form 116 = true then vld ty else noTy ty)
  · rw [hT] at HE
    simp only [Bool.false_and] at HE
    rw [HE]
    exact nv_type j hj1 hj2 nm num ty fr lb ts v fp w form nk HOP hform hat hl (hid hN) hnum (hid hM) (hid hT)
  rw [hT, Bool.true_and] at HE
  cases hFr : noTy fr
  · rw [hFr] at HE
    simp only [Bool.false_and] at HE
    rw [HE]
    exact nv_from j hj1 hj2 nm num ty fr lb ts v fp w form nk HOP hform hat hl (hid hN) hnum (hid hM) (hid hT) (hid hFr)
  rw [hFr, Bool.true_and] at HE
  rw [HE]
  exact nv_label j hj1 hj2 nm num ty fr lb ts v fp w form nk HOP hform hat hl (hid hN) hnum (hid hM) (hid hT) (hid hFr)
end Go.Proofs.YtgmpndpehhbmgaaDoor
