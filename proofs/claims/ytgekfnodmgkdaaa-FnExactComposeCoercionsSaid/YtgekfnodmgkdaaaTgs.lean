/- The tag of a coercion: the specification's l6Tag. -/
import Derived.Test.YtgekfnodmgkdaaaCp
namespace Go.Proofs.Ytgekfnodmgkdaaa
open Go.RowKit

/-- A chain of injections ends. -/
def tagWf : Nat → Co → Bool
  | 0, _ => false
  | d + 1, .mk k _ _ ts => if k = 4 then (match ts with | [t] => tagWf d t | _ => false) else true

theorem tagWf_shp : ∀ {d : Nat} {t : Co}, shpK d t = true → tagWf d t = true
  | 0, _, h => by simp [shpK] at h
  | d + 1, .mk k g l ts, h => by
    obtain ⟨hn, hs⟩ := shpK_node h
    by_cases h4 : k = 4
    · rcases nodeC_cases hn with ⟨h, _⟩ | ⟨h, _⟩ | ⟨h, _⟩ | ⟨_, _, _, a, rfl, _⟩ | ⟨h, _⟩ | ⟨h, _⟩
      any_goals omega
      simp only [tagWf, if_pos h4]
      exact tagWf_shp (hs a (by simp))
    · simp [tagWf, h4]

def TgC (d : Nat) : Prop := ∀ (t : Co) (v : Value) (fp : List Nat) (w : World), tagWf d t = true → t.At w v fp →
  Calls Try.prog 53 #[v] w fun e w' => e = .returned (.int .i64 (tagC t)) ∧ Below w.heap.size w w'

set_option maxHeartbeats 1000000 in
theorem tag_succ (d : Nat) (ih : TgC d) : TgC (d + 1) := by
  intro t v fp w hw hat
  have HIH := hid ih
  clear ih
  obtain ⟨k, g, l, ts, rfl⟩ := t.shape
  obtain ⟨s, rfl, hs⟩ := Co.at_mk.1 hat
  by_cases h4 : k = 4
  · subst h4
    simp only [tagWf, if_true] at hw
    match ts, hw, hs with
    | [x], hw, hs =>
    obtain ⟨b, o, cap, k1, g1, l1, n1, a1, c1, f1, rfl, hblt, d0, d1, d2, d3, hx, _, hc⟩ := hs.one
    have hb0 : Below w.heap.size w (w.alloc (Obj.cells #[.int .i64 4, .int .i64 g, .int .i64 l, .slice (some ⟨b, o, none⟩) 1 cap] 44)) := (Below.refl _ _).alloc (Nat.le_refl _) _
    have HT := hid (show tagC (.mk 4 g l [x]) = tagC x by simp [tagC, tagL])
    have HX := hid (hx.below hb0)
    have HW := hid hw
    have e0 := cell_keep d0 hb0
    have e1 := cell_keep d1 hb0
    have e2 := cell_keep d2 hb0
    have e3 := cell_keep d3 hb0
    clear hat hs hx hw
    go_enter Try.func53, Try.ntmps53
    go_wp2_with fail
    refine (HIH.out x _ _ _ HW.out HX.out).mono ?_
    rintro e w1 ⟨rfl, hb1⟩
    generalize hr : tagC x = r
    have HR := hid hr
    clear hr
    go_wp2_with fail
    go_ret
    exact ⟨ret_i (by rw [HT.out, HR.out]), below_trans hb0 hb1⟩
  obtain ⟨a, cap, rfl⟩ := hs.shape
  generalize hn : ts.length = n at *
  have e4 : (k == 4) = false := by simpa using h4
  have hb0 : Below w.heap.size w (w.alloc (Obj.cells #[.int .i64 k, .int .i64 g, .int .i64 l, .slice a n cap] 44)) := (Below.refl _ _).alloc (Nat.le_refl _) _
  clear hat hs hn hw
  by_cases h2 : k = 2
  · subst h2
    have HT := hid (show tagC (.mk 2 g l ts) = 4 by simp [tagC])
    go_enter Try.func53, Try.ntmps53
    go_wp2_with fail
    go_ret
    exact ⟨ret_i HT.out.symm, hb0⟩
  have e2 : (k == 2) = false := by simpa using h2
  by_cases h3 : k = 3
  · subst h3
    have HT := hid (show tagC (.mk 3 g l ts) = 5 by simp [tagC])
    go_enter Try.func53, Try.ntmps53
    go_wp2_with fail
    go_ret
    exact ⟨ret_i HT.out.symm, hb0⟩
  have e3 : (k == 3) = false := by simpa using h3
  have HT := hid (show tagC (.mk k g l ts) = g by simp [tagC, h2, h3, h4])
  go_enter Try.func53, Try.ntmps53
  go_wp2_with fail
  go_ret
  exact ⟨ret_i HT.out.symm, hb0⟩

theorem tag_any : ∀ d, TgC d
  | 0 => fun t v fp w h => by simp [tagWf] at h
  | d + 1 => tag_succ d (tag_any d)
end Go.Proofs.Ytgekfnodmgkdaaa
