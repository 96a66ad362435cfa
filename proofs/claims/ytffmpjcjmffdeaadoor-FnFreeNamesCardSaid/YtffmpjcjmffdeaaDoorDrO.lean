/- Draws: a source opened over an argument's bytes. -/
import Derived.Test.YtffmpjcjmffdeaaDoorDr1
namespace Go.Proofs.YtffmpjcjmffdeaaDoor
open Go.RowKit

/-- An argument's bytes. -/
def BytA (w : World) (a : Option Addr) (n : Nat) : Prop := ∀ i, i < n → ∃ ad x, a = some ad ∧ ad.block < w.heap.size ∧ w.cell? (ad.add i) = some (.int .u8 x) ∧ 0 ≤ x ∧ x < 256

theorem BytA.below {w w' : World} {a : Option Addr} {n : Nat} (h : BytA w a n) (hb : Below w.heap.size w w') : BytA w' a n := fun i hi => by
  obtain ⟨ad, x, h1, h2, h3, h4⟩ := h i hi
  exact ⟨ad, x, h1, Nat.lt_of_lt_of_le h2 hb.size, (hb.cell (p := ad.add i) (by rw [add_block]; exact h2)).trans h3, h4⟩

theorem BytA.open {w : World} {a : Option Addr} {n m cap : Nat} (h : BytA w a n) (hm : m ≤ n) (hl : m ≤ 2000) : RdAt w.heap.size 0 (w.alloc (Obj.cells #[.slice a m cap, .int .i64 0] 177)) := by
  refine ⟨a, m, cap, 0, alloc_new _ _, fun i hi => ?_, hl, Nat.le_refl _⟩
  obtain ⟨ad, x, h1, h2, h3, h4⟩ := h.below ((Below.refl _ _).alloc (Nat.le_refl _) (Obj.cells #[.slice a m cap, .int .i64 0] 177)) i (by omega)
  obtain ⟨ad', x', h1', h2', _⟩ := h i (by omega)
  have : ad = ad' := Option.some.inj (h1.symm.trans h1')
  exact ⟨ad, x, h1, by rw [this]; exact h2', h3, h4⟩

set_option maxHeartbeats 1000000 in
theorem open_any (a : Option Addr) (n cap : Nat) (w : World) (hB : BytA w a n) (hn : n ≤ cap) (hm : cap ≤ maxLen) : Calls Tryd.prog 129 #[.slice a n cap] w fun e w' => e = .returned (.pointer (some ⟨w.heap.size, 0, none⟩)) ∧ RdAt w.heap.size 0 w' ∧ Below w.heap.size w w' := by
  have hmx : maxLen = 9223372036854775807 ∨ maxLen ≤ 9223372036854775807 := by unfold maxLen; omega
  have hcl : (cap : Int) ≤ 9223372036854775807 := by omega
  have hnl : (n : Int) ≤ 9223372036854775807 := by omega
  by_cases h : n ≤ 2000
  · have HO := hid (hB.open (m := n) (cap := cap) (Nat.le_refl _) h)
    have hg : ¬ (n : Int) > 2000 := by omega
    clear hB
    go_enter Tryd.func129, Tryd.ntmps129
    go_wp2_with fail
    go_ret
    exact ⟨rfl, HO.out, (Below.refl _ _).alloc (Nat.le_refl _) _⟩
  · have HO := hid (hB.open (m := 2000) (cap := cap) (by omega) (by omega))
    have hg : (n : Int) > 2000 := by omega
    obtain ⟨ad, x, rfl, _⟩ := hB 0 (by omega)
    have hc2 : 2000 ≤ cap := by omega
    clear hB
    go_enter Tryd.func129, Tryd.ntmps129
    go_wp2_with fail
    go_ret
    exact ⟨rfl, by first | exact HO.out | simpa using HO.out, (Below.refl _ _).alloc (Nat.le_refl _) _⟩

end Go.Proofs.YtffmpjcjmffdeaaDoor
