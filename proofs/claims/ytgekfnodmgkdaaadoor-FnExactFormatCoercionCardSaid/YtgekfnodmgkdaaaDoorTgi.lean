/- The tag of a coercion: the program's tagOf. -/
import Derived.Test.YtgekfnodmgkdaaaDoorTgs
namespace Go.Proofs.YtgekfnodmgkdaaaDoor
open Go.RowKit

def TgiC (d : Nat) : Prop := ∀ (t : Co) (v : Value) (fp : List Nat) (w : World), tagWf d t = true → t.At w v fp →
  Calls Tryd.prog 123 #[v] w fun e w' => e = .returned (.int .i64 (tagC t)) ∧ Below w.heap.size w w'

set_option maxHeartbeats 1000000 in
theorem tagi_succ (d : Nat) (ih : TgiC d) : TgiC (d + 1) := by
  intro t v fp w hw hat
  have HIH := hid ih
  clear ih
  obtain ⟨k, g, l, ts, rfl⟩ := t.shape
  obtain ⟨s, rfl, hs⟩ := Co.at_mk.1 hat
  by_cases h4 : k = 4
  · subst h4
    simp only [tagWf, if_true] at hw
    match ts, hw, hs with
    | [x], hw, hs =>
    obtain ⟨b, o, cap, k1, g1, l1, n1, a1, c1, f1, rfl, hblt, d0, d1, d2, d3, hx, _, hc⟩ := hs.one
    have hb0 : Below w.heap.size w (w.alloc (Obj.cells #[.int .i64 4, .int .i64 g, .int .i64 l, .slice (some ⟨b, o, none⟩) 1 cap] 45)) := (Below.refl _ _).alloc (Nat.le_refl _) _
    have HT := hid (show tagC (.mk 4 g l [x]) = tagC x by simp [tagC, tagL])
    have HX := hid (hx.below hb0)
    have HW := hid hw
    have e0 := cell_keep d0 hb0
    have e1 := cell_keep d1 hb0
    have e2 := cell_keep d2 hb0
    have e3 := cell_keep d3 hb0
    clear hat hs hx hw
    go_enter Tryd.func123, Tryd.ntmps123
    go_wp2_with fail
    refine (HIH.out x _ _ _ HW.out HX.out).mono ?_
    rintro e w1 ⟨rfl, hb1⟩
    generalize hr : tagC x = r
    have HR := hid hr
    clear hr
    go_wp2_with fail
    go_ret
    exact ⟨ret_i (by rw [HT.out, HR.out]), below_trans hb0 hb1⟩
  obtain ⟨a, cap, rfl⟩ := hs.shape
  generalize hn : ts.length = n at *
  have e4 : (k == 4) = false := by simpa using h4
  have hb0 : Below w.heap.size w (w.alloc (Obj.cells #[.int .i64 k, .int .i64 g, .int .i64 l, .slice a n cap] 45)) := (Below.refl _ _).alloc (Nat.le_refl _) _
  clear hat hs hn hw
  by_cases h2 : k = 2
  · subst h2
    have HT := hid (show tagC (.mk 2 g l ts) = 4 by simp [tagC])
    go_enter Tryd.func123, Tryd.ntmps123
    go_wp2_with fail
    go_ret
    exact ⟨ret_i HT.out.symm, hb0⟩
  have e2 : (k == 2) = false := by simpa using h2
  by_cases h3 : k = 3
  · subst h3
    have HT := hid (show tagC (.mk 3 g l ts) = 5 by simp [tagC])
    go_enter Tryd.func123, Tryd.ntmps123
    go_wp2_with fail
    go_ret
    exact ⟨ret_i HT.out.symm, hb0⟩
  have e3 : (k == 3) = false := by simpa using h3
  have HT := hid (show tagC (.mk k g l ts) = g by simp [tagC, h2, h3, h4])
  go_enter Tryd.func123, Tryd.ntmps123
  go_wp2_with fail
  go_ret
  exact ⟨ret_i HT.out.symm, hb0⟩

theorem tagi_any : ∀ d, TgiC d
  | 0 => fun t v fp w h => by simp [tagWf] at h
  | d + 1 => tagi_succ d (tagi_any d)
end Go.Proofs.YtgekfnodmgkdaaaDoor
