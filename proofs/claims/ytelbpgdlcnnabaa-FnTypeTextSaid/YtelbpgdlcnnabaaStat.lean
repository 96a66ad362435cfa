/- IsStatic and TypeDepth, of the specification and of the program. -/
import Derived.Test.YtelbpgdlcnnabaaPkA
import Derived.Test.YtelbpgdlcnnabaaCount
import Derived.Test.YtelbpgdlcnnabaaDep
namespace Go.Proofs.Ytelbpgdlcnnabaa
open Go.RowKit

def depOf (t : Ty) : Int := if vld t then dep t else 0
def staOf (t : Ty) : Bool := vld t && (cntAny t == 0)

set_option maxHeartbeats 400000 in
theorem specTypeDepth (t : Ty) (v : Value) (fp : List Nat) (w : World) (hat : t.At w v fp) (hn : t.cnt ≤ 1048576) :
    Calls Try.prog 34 #[v] w fun e w' => e = .returned (.int .i64 (depOf t)) ∧ Below w.heap.size w w' := by
  obtain ⟨k, m, a, cap, rfl⟩ := hat.agg
  have hB : Below w.heap.size w (w.alloc (Obj.cells #[.int .i64 k, .slice a m cap] 25)) := (Below.refl _ _).alloc (Nat.le_refl _) _
  have hat1 := hat.below hB
  cases hv : vld t with
  | false =>
    have HT := hid (show depOf t = 0 by simp [depOf, hv])
    have HV := hid hv
    clear hv
    go_enter Try.func34, Try.ntmps34
    go_wp2_with fail
    refine (specTypeValid_any t _ _ _ hat1).mono ?_
    rintro e w1 ⟨he, hb⟩
    rw [HV.out] at he
    subst he
    go_wp2_with fail
    go_ret
    exact ⟨ret_i HT.out.symm, alloc1 hb⟩
  | true =>
    have HT := hid (show depOf t = dep t by simp [depOf, hv])
    have HV := hid hv
    clear hv
    go_enter Try.func34, Try.ntmps34
    go_wp2_with fail
    refine (specTypeValid_any t _ _ _ hat1).mono ?_
    rintro e w1 ⟨he, hb⟩
    rw [HV.out] at he
    subst he
    obtain ⟨x0, x1⟩ := box_cells hb
    go_wp2_with fail
    refine (l1Depth_any t _ _ _ (hat1.below hb) hn).mono ?_
    rintro e w2 ⟨rfl, hb2⟩
    have hbb := below_trans (alloc1 hb) hb2
    go_wp2_with fail
    go_ret
    exact ⟨ret_i HT.out.symm, hbb⟩

set_option maxHeartbeats 400000 in
theorem implTypeDepth (t : Ty) (v : Value) (fp : List Nat) (w : World) (hat : t.At w v fp) (hn : t.cnt ≤ 1048576) :
    Calls Try.prog 33 #[v] w fun e w' => e = .returned (.int .i64 (depOf t)) ∧ Below w.heap.size w w' := by
  obtain ⟨k, m, a, cap, rfl⟩ := hat.agg
  have hB : Below w.heap.size w (w.alloc (Obj.cells #[.int .i64 k, .slice a m cap] 25)) := (Below.refl _ _).alloc (Nat.le_refl _) _
  have hat1 := hat.below hB
  cases hv : vld t with
  | false =>
    have HT := hid (show depOf t = 0 by simp [depOf, hv])
    have HV := hid hv
    clear hv
    go_enter Try.func33, Try.ntmps33
    go_wp2_with fail
    refine (implTypeValid_any t _ _ _ hat1).mono ?_
    rintro e w1 ⟨he, hb⟩
    rw [HV.out] at he
    subst he
    go_wp2_with fail
    go_ret
    exact ⟨ret_i HT.out.symm, alloc1 hb⟩
  | true =>
    have HT := hid (show depOf t = dep t by simp [depOf, hv])
    have HV := hid hv
    clear hv
    go_enter Try.func33, Try.ntmps33
    go_wp2_with fail
    refine (implTypeValid_any t _ _ _ hat1).mono ?_
    rintro e w1 ⟨he, hb⟩
    rw [HV.out] at he
    subst he
    obtain ⟨x0, x1⟩ := box_cells hb
    go_wp2_with fail
    refine (depthOfType_any t _ _ _ (hat1.below hb) hn).mono ?_
    rintro e w2 ⟨rfl, hb2⟩
    have hbb := below_trans (alloc1 hb) hb2
    go_wp2_with fail
    go_ret
    exact ⟨ret_i HT.out.symm, hbb⟩

set_option maxHeartbeats 400000 in
theorem specIsStatic (t : Ty) (v : Value) (fp : List Nat) (w : World) (hat : t.At w v fp) (hn : t.cnt ≤ 1048576) :
    Calls Try.prog 29 #[v] w fun e w' => e = .returned (.bool (staOf t)) ∧ Below w.heap.size w w' := by
  obtain ⟨k, m, a, cap, rfl⟩ := hat.agg
  have hB : Below w.heap.size w (w.alloc (Obj.cells #[.int .i64 k, .slice a m cap] 25)) := (Below.refl _ _).alloc (Nat.le_refl _) _
  have hat1 := hat.below hB
  cases hv : vld t with
  | false =>
    have HT := hid (show staOf t = false by simp [staOf, hv])
    have HV := hid hv
    clear hv
    go_enter Try.func29, Try.ntmps29
    go_wp2_with fail
    refine (specTypeValid_any t _ _ _ hat1).mono ?_
    rintro e w1 ⟨he, hb⟩
    rw [HV.out] at he
    subst he
    go_wp2_with fail
    go_ret
    exact ⟨ret_b HT.out.symm, alloc1 hb⟩
  | true =>
    have HT := hid (show staOf t = (cntAny t == 0) by simp [staOf, hv])
    have HV := hid hv
    clear hv
    go_enter Try.func29, Try.ntmps29
    go_wp2_with fail
    refine (specTypeValid_any t _ _ _ hat1).mono ?_
    rintro e w1 ⟨he, hb⟩
    rw [HV.out] at he
    subst he
    obtain ⟨x0, x1⟩ := box_cells hb
    go_wp2_with fail
    refine (l1Count_any t _ _ _ (hat1.below hb) hn).mono ?_
    rintro e w2 ⟨rfl, hb2⟩
    have hbb := below_trans (alloc1 hb) hb2
    generalize cntAny t = c at *
    go_wp2_with fail
    go_ret
    exact ⟨ret_b HT.out.symm, hbb⟩

set_option maxHeartbeats 400000 in
theorem implIsStatic (t : Ty) (v : Value) (fp : List Nat) (w : World) (hat : t.At w v fp) (hn : t.cnt ≤ 1048576) :
    Calls Try.prog 28 #[v] w fun e w' => e = .returned (.bool (staOf t)) ∧ Below w.heap.size w w' := by
  obtain ⟨k, m, a, cap, rfl⟩ := hat.agg
  have hB : Below w.heap.size w (w.alloc (Obj.cells #[.int .i64 k, .slice a m cap] 25)) := (Below.refl _ _).alloc (Nat.le_refl _) _
  have hat1 := hat.below hB
  cases hv : vld t with
  | false =>
    have HT := hid (show staOf t = false by simp [staOf, hv])
    have HV := hid hv
    clear hv
    go_enter Try.func28, Try.ntmps28
    go_wp2_with fail
    refine (implTypeValid_any t _ _ _ hat1).mono ?_
    rintro e w1 ⟨he, hb⟩
    rw [HV.out] at he
    subst he
    go_wp2_with fail
    go_ret
    exact ⟨ret_b HT.out.symm, alloc1 hb⟩
  | true =>
    have HT := hid (show staOf t = (cntAny t == 0) by simp [staOf, hv])
    have HV := hid hv
    clear hv
    go_enter Try.func28, Try.ntmps28
    go_wp2_with fail
    refine (implTypeValid_any t _ _ _ hat1).mono ?_
    rintro e w1 ⟨he, hb⟩
    rw [HV.out] at he
    subst he
    obtain ⟨x0, x1⟩ := box_cells hb
    go_wp2_with fail
    refine (countUnknown_any t _ _ _ (hat1.below hb) hn).mono ?_
    rintro e w2 ⟨rfl, hb2⟩
    have hbb := below_trans (alloc1 hb) hb2
    generalize cntAny t = c at *
    go_wp2_with fail
    go_ret
    exact ⟨ret_b HT.out.symm, hbb⟩

end Go.Proofs.Ytelbpgdlcnnabaa
