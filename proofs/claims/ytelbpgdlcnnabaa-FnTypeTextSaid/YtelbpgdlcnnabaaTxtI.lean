/- The program's FormatType. -/
import Derived.Test.YtelbpgdlcnnabaaTxt
import Derived.Test.YtelbpgdlcnnabaaTxW
namespace Go.Proofs.Ytelbpgdlcnnabaa
open Go.RowKit

set_option maxHeartbeats 400000 in
theorem implFormatType (t : Ty) (v : Value) (fp : List Nat) (w : World) (hat : t.At w v fp) :
    Calls Try.prog 37 #[v] w fun e w' => e = .returned (.string ⟨(fmtT t).toArray⟩) ∧ Below w.heap.size w w' := by
  obtain ⟨k, m, a, cap, rfl⟩ := hat.agg
  have hB : Below w.heap.size w (w.alloc (Obj.cells #[.int .i64 k, .slice a m cap] 25)) := (Below.refl _ _).alloc (Nat.le_refl _) _
  have hat1 := hat.below hB
  cases hv : vld t with
  | false =>
    have HT := hid (show fmtT t = [] by simp [fmtT, hv])
    have HV := hid hv
    clear hv
    go_enter Try.func37, Try.ntmps37
    go_wp2_with fail
    refine (implTypeValid_any t _ _ _ hat1).mono ?_
    rintro e w1 ⟨he, hb⟩
    rw [HV.out] at he
    subst he
    go_wp2_with fail
    go_ret
    exact ⟨ret_s (by rw [HT.out]), alloc1 hb⟩
  | true =>
    have HT := hid (show fmtT t = txt 4 t by simp [fmtT, hv])
    have HV := hid hv
    clear hv
    go_enter Try.func37, Try.ntmps37
    go_wp2_with fail
    refine (implTypeValid_any t _ _ _ hat1).mono ?_
    rintro e w1 ⟨he, hb⟩
    rw [HV.out] at he
    subst he
    have hb1 := alloc1 hb
    have hba : Below w1.heap.size w1 (w1.alloc (Obj.cells #[.pointer none, .slice none 0 0] 66)) := (Below.refl _ _).alloc (Nat.le_refl _) _
    obtain ⟨x0, x1⟩ := box_cells (below_trans hb hba)
    have HI := hid (Lib.IsBuilderF.of (Lib.fresh_isBuilder 66 5 w1))
    have HA := hid (hat.below hb1)
    have HBA := hid hba
    have hlt : w.heap.size < w1.heap.size := by have := hb.size; simp at this; omega
    clear hat hat1 hb hba
    go_wp2_with fail
    refine (writeType_any 4 t _ fp w1.heap.size w1.heap.size [] _ (Nat.le_refl _) HV.out (HA.out.below HBA.out) (HA.out.lt) (by simp) (by simp) (by simp) HI.out).mono ?_
    rintro e w2 ⟨rfl, hi2, hb2, hk2⟩
    have HI2 := hid hi2
    have HB2 := hid hb2
    clear hi2 hb2 hk2
    have hsz : w1.heap.size ≤ w2.heap.size := Nat.le_trans HBA.out.size HB2.out.size
    go_wp2_with fail
    refine (bldString w1.heap.size w1.heap.size _ _ HI2.out hsz).mono ?_
    rintro e w3 ⟨rfl, hi3, hb3, hk3⟩
    have hbb := hb1.trans ((HBA.out.trans (HB2.out.trans hb3)).mono hb1.size)
    clear hi3 hb3 hk3
    go_wp2_with fail
    go_ret
    exact ⟨ret_s (by rw [HT.out]), hbb⟩
end Go.Proofs.Ytelbpgdlcnnabaa
