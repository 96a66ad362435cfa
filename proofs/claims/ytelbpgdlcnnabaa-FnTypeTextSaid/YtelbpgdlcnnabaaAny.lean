/- CountAny, of the specification and of the program. -/
import Derived.Test.YtelbpgdlcnnabaaPkA
import Derived.Test.YtelbpgdlcnnabaaCount
namespace Go.Proofs.Ytelbpgdlcnnabaa
open Go.RowKit

def anyOf (t : Ty) : Int := if vld t then cntAny t else 0

set_option maxHeartbeats 400000 in
theorem implCountAny (t : Ty) (v : Value) (fp : List Nat) (w : World) (hat : t.At w v fp) (hn : t.cnt ≤ 1048576) :
    Calls Try.prog 31 #[v] w fun e w' => e = .returned (.int .i64 (anyOf t)) ∧ Below w.heap.size w w' := by
  obtain ⟨k, m, a, cap, rfl⟩ := hat.agg
  have hB : Below w.heap.size w (w.alloc (Obj.cells #[.int .i64 k, .slice a m cap] 25)) := (Below.refl _ _).alloc (Nat.le_refl _) _
  have hat1 := hat.below hB
  cases hv : vld t with
  | false =>
    have HT := hid (show anyOf t = 0 by simp [anyOf, hv])
    have HV := hid hv
    clear hv
    go_enter Try.func31, Try.ntmps31
    go_wp2_with fail
    refine (implTypeValid_any t _ _ _ hat1).mono ?_
    rintro e w1 ⟨he, hb⟩
    rw [HV.out] at he
    subst he
    go_wp2_with fail
    go_ret
    exact ⟨ret_i HT.out.symm, alloc1 hb⟩
  | true =>
    have HT := hid (show anyOf t = cntAny t by simp [anyOf, hv])
    have HV := hid hv
    clear hv
    go_enter Try.func31, Try.ntmps31
    go_wp2_with fail
    refine (implTypeValid_any t _ _ _ hat1).mono ?_
    rintro e w1 ⟨he, hb⟩
    rw [HV.out] at he
    subst he
    obtain ⟨x0, x1⟩ := box_cells hb
    go_wp2_with fail
    refine (countUnknown_any t _ _ _ (hat1.below hb) hn).mono ?_
    rintro e w2 ⟨rfl, hb2⟩
    have hbb := below_trans (alloc1 hb) hb2
    go_wp2_with fail
    go_ret
    exact ⟨ret_i HT.out.symm, hbb⟩

end Go.Proofs.Ytelbpgdlcnnabaa
