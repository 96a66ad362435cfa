/- The specification's FormatType. -/
import Derived.Test.YtelbpgdlcnnabaaTx0
namespace Go.Proofs.Ytelbpgdlcnnabaa
open Go.RowKit

set_option maxHeartbeats 400000 in
theorem specFormatType (t : Ty) (v : Value) (fp : List Nat) (w : World) (hat : t.At w v fp) :
    Calls Try.prog 40 #[v] w fun e w' => e = .returned (.string ⟨(fmtT t).toArray⟩) ∧ Below w.heap.size w w' := by
  obtain ⟨k, m, a, cap, rfl⟩ := hat.agg
  have hB : Below w.heap.size w (w.alloc (Obj.cells #[.int .i64 k, .slice a m cap] 25)) := (Below.refl _ _).alloc (Nat.le_refl _) _
  have hat1 := hat.below hB
  cases hv : vld t with
  | false =>
    have HT := hid (show fmtT t = [] by simp [fmtT, hv])
    have HV := hid hv
    clear hv
    go_enter Try.func40, Try.ntmps40
    go_wp2_with fail
    refine (specTypeValid_any t _ _ _ hat1).mono ?_
    rintro e w1 ⟨he, hb⟩
    rw [HV.out] at he
    subst he
    go_wp2_with fail
    go_ret
    exact ⟨ret_s (by rw [HT.out]), alloc1 hb⟩
  | true =>
    have HT := hid (show fmtT t = txt 4 t by simp [fmtT, hv])
    have HV := hid hv
    clear hv
    go_enter Try.func40, Try.ntmps40
    go_wp2_with fail
    refine (specTypeValid_any t _ _ _ hat1).mono ?_
    rintro e w1 ⟨he, hb⟩
    rw [HV.out] at he
    subst he
    obtain ⟨x0, x1⟩ := box_cells hb
    go_wp2_with fail
    refine (l1Text_any 4 t _ _ _ (Nat.le_refl _) HV.out (hat1.below hb)).mono ?_
    rintro e w2 ⟨rfl, hb2⟩
    have hbb := below_trans (alloc1 hb) hb2
    go_wp2_with fail
    go_ret
    exact ⟨ret_s (by rw [HT.out]), hbb⟩
end Go.Proofs.Ytelbpgdlcnnabaa
