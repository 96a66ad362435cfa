/- FormatCoercion, of both sides. -/
import Derived.Test.YtgekfnodmgkdaaaDoorFcS
import Derived.Test.YtgekfnodmgkdaaaDoorFcZ
import Derived.Test.YtgekfnodmgkdaaaDoorCw6
import Derived.Test.YtgekfnodmgkdaaaDoorCv6
namespace Go.Proofs.YtgekfnodmgkdaaaDoor
open Go.RowKit

set_option maxHeartbeats 400000 in
theorem specFormatCoercion (t : Co) (v : Value) (fp : List Nat) (w : World) (hat : t.At w v fp) :
    Calls Tryd.prog 18 #[v] w fun e w' => e = .returned (.string ⟨(fcV t).toArray⟩) ∧ Below w.heap.size w w' := by
  obtain ⟨k, g, l, m, a, cap, rfl⟩ := hat.agg
  have hB : Below w.heap.size w (w.alloc (Obj.cells #[.int .i64 k, .int .i64 g, .int .i64 l, .slice a m cap] 45)) := (Below.refl _ _).alloc (Nat.le_refl _) _
  have hat1 := hat.below hB
  cases hv : vldK t with
  | false =>
    have HT := hid (show fcV t = [] by simp [fcV, hv])
    have HV := hid hv
    clear hv
    go_enter Tryd.func18, Tryd.ntmps18
    go_wp2_with fail
    refine (specCoercionValid_any t _ _ _ hat1).mono ?_
    rintro e w1 ⟨he, hb⟩
    rw [HV.out] at he
    subst he
    go_wp2_with fail
    go_ret
    exact ⟨ret_s (by rw [HT.out]), alloc1 hb⟩
  | true =>
    have HT := hid (show fcV t = cx 9 t by simp [fcV, hv])
    have HV := hid hv
    clear hv
    go_enter Tryd.func18, Tryd.ntmps18
    go_wp2_with fail
    refine (specCoercionValid_any t _ _ _ hat1).mono ?_
    rintro e w1 ⟨he, hb⟩
    rw [HV.out] at he
    subst he
    obtain ⟨x0, x1, x2, x3⟩ := box4 hb
    go_wp2_with fail
    refine (l6Text_any 9 t _ _ _ (Nat.le_refl _) HV.out (hat1.below hb)).mono ?_
    rintro e w2 ⟨rfl, hb2⟩
    have hbb := below_trans (alloc1 hb) hb2
    go_wp2_with fail
    go_ret
    exact ⟨ret_s (by rw [HT.out]), hbb⟩

set_option maxHeartbeats 400000 in
theorem implFormatCoercion (t : Co) (v : Value) (fp : List Nat) (w : World) (htab : Lib.TabIs Tryd.prog w "internal/strconv.uint64pow10" .u64 Lib.pow10Tab) (hat : t.At w v fp) :
    Calls Tryd.prog 20 #[v] w fun e w' => e = .returned (.string ⟨(fcV t).toArray⟩) ∧ Below w.heap.size w w' := by
  obtain ⟨k, g, l, m, a, cap, rfl⟩ := hat.agg
  have hB : Below w.heap.size w (w.alloc (Obj.cells #[.int .i64 k, .int .i64 g, .int .i64 l, .slice a m cap] 45)) := (Below.refl _ _).alloc (Nat.le_refl _) _
  have hat1 := hat.below hB
  have HTAB := hid (Lib.tabBelow_of_tabIs htab)
  clear htab
  cases hv : vldK t with
  | false =>
    have HT := hid (show fcV t = [] by simp [fcV, hv])
    have HV := hid hv
    clear hv
    go_enter Tryd.func20, Tryd.ntmps20
    go_wp2_with fail
    refine (implCoercionValid_any t _ _ _ hat1).mono ?_
    rintro e w1 ⟨he, hb⟩
    rw [HV.out] at he
    subst he
    go_wp2_with fail
    go_ret
    exact ⟨ret_s (by rw [HT.out]), alloc1 hb⟩
  | true =>
    have HT := hid (show fcV t = cx 9 t by simp [fcV, hv])
    have HV := hid hv
    clear hv
    go_enter Tryd.func20, Tryd.ntmps20
    go_wp2_with fail
    refine (implCoercionValid_any t _ _ _ hat1).mono ?_
    rintro e w1 ⟨he, hb⟩
    rw [HV.out] at he
    subst he
    have hb1 := alloc1 hb
    have hba : Below w1.heap.size w1 (w1.alloc (Obj.cells #[.pointer none, .slice none 0 0] 83)) := (Below.refl _ _).alloc (Nat.le_refl _) _
    obtain ⟨x0, x1, x2, x3⟩ := box4 (below_trans hb hba)
    have HI := hid (Lib.IsBuilderF.of (Lib.fresh_isBuilder 83 5 w1))
    have HA := hid (hat.below hb1)
    have HBA := hid hba
    have HTB := hid ((Lib.tabBelow_of_tabIs ((HTAB.out.on hb1).here)).on hba)
    have hlt : w.heap.size < w1.heap.size := by have := hb.size; simp at this; omega
    clear hat hat1 hb hba
    go_wp2_with fail
    refine (writeCoercion_any 9 t _ fp w1.heap.size w1.heap.size [] _ (Nat.le_refl _) HV.out (HA.out.below HBA.out) (HA.out.lt) HTB.out (by simp) (by simp) (by simp) HI.out).mono ?_
    rintro e w2 ⟨rfl, hi2, hb2, hk2⟩
    have HI2 := hid hi2
    have HB2 := hid hb2
    clear hi2 hb2 hk2
    have hsz : w1.heap.size ≤ w2.heap.size := Nat.le_trans HBA.out.size HB2.out.size
    go_wp2_with fail
    refine (bldString w1.heap.size w1.heap.size _ _ HI2.out hsz).mono ?_
    rintro e w3 ⟨rfl, hi3, hb3, hk3⟩
    have hbb := hb1.trans ((HBA.out.trans (HB2.out.trans hb3)).mono hb1.size)
    clear hi3 hb3 hk3
    go_wp2_with fail
    go_ret
    exact ⟨ret_s (by rw [HT.out]), hbb⟩
end Go.Proofs.YtgekfnodmgkdaaaDoor
