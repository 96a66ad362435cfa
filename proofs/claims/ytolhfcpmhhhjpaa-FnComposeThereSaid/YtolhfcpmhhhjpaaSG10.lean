/- Draws: a source opened over an argument's bytes. An argument of bytes, opened. -/
import Derived.Test.YtolhfcpmhhhjpaaSDr1
import Derived.Lib.SmallJoins
import Derived.Deep.Fields
import Derived.ProofKit
import Derived.OpenShut
import Derived.ChangeOld
namespace Go.Proofs.Ytolhfcpmhhhjpaa
open Go.RowKit

/-- An argument's bytes. -/
def BytA (w : World) (a : Option Addr) (n : Nat) : Prop := ∀ i, i < n → ∃ ad x, a = some ad ∧ ad.block < w.heap.size ∧ w.cell? (ad.add i) = some (.int .u8 x) ∧ 0 ≤ x ∧ x < 256

theorem BytA.below {w w' : World} {a : Option Addr} {n : Nat} (h : BytA w a n) (hb : Below w.heap.size w w') : BytA w' a n := fun i hi => by
  obtain ⟨ad, x, h1, h2, h3, h4⟩ := h i hi
  exact ⟨ad, x, h1, Nat.lt_of_lt_of_le h2 hb.size, (hb.cell (p := ad.add i) (by rw [add_block]; exact h2)).trans h3, h4⟩

theorem BytA.open {w : World} {a : Option Addr} {n m cap : Nat} (h : BytA w a n) (hm : m ≤ n) (hl : m ≤ 2000) : RdAt w.heap.size 0 (w.alloc (Obj.cells #[.slice a m cap, .int .i64 0] 100)) := by
  refine ⟨a, m, cap, 0, alloc_new _ _, fun i hi => ?_, hl, Nat.le_refl _⟩
  obtain ⟨ad, x, h1, h2, h3, h4⟩ := h.below ((Below.refl _ _).alloc (Nat.le_refl _) (Obj.cells #[.slice a m cap, .int .i64 0] 100)) i (by omega)
  obtain ⟨ad', x', h1', h2', _⟩ := h i (by omega)
  have : ad = ad' := Option.some.inj (h1.symm.trans h1')
  exact ⟨ad, x, h1, by rw [this]; exact h2', h3, h4⟩

set_option maxHeartbeats 1000000 in
theorem open_any (a : Option Addr) (n cap : Nat) (w : World) (hB : BytA w a n) (hn : n ≤ cap) (hm : cap ≤ maxLen) : Calls Try.prog 56 #[.slice a n cap] w fun e w' => e = .returned (.pointer (some ⟨w.heap.size, 0, none⟩)) ∧ RdAt w.heap.size 0 w' ∧ Below w.heap.size w w' := by
  have hmx : maxLen = 9223372036854775807 ∨ maxLen ≤ 9223372036854775807 := by unfold maxLen; omega
  have hcl : (cap : Int) ≤ 9223372036854775807 := by omega
  have hnl : (n : Int) ≤ 9223372036854775807 := by omega
  by_cases h : n ≤ 2000
  · have HO := hid (hB.open (m := n) (cap := cap) (Nat.le_refl _) h)
    have hg : ¬ (n : Int) > 2000 := by omega
    clear hB
    go_enter Try.func56, Try.ntmps56
    go_wp2_with fail
    go_ret
    exact ⟨rfl, HO.out, (Below.refl _ _).alloc (Nat.le_refl _) _⟩
  · have HO := hid (hB.open (m := 2000) (cap := cap) (by omega) (by omega))
    have hg : (n : Int) > 2000 := by omega
    obtain ⟨ad, x, rfl, _⟩ := hB 0 (by omega)
    have hc2 : 2000 ≤ cap := by omega
    clear hB
    go_enter Try.func56, Try.ntmps56
    go_wp2_with fail
    go_ret
    exact ⟨rfl, by first | exact HO.out | simpa using HO.out, (Below.refl _ _).alloc (Nat.le_refl _) _⟩

end Go.Proofs.Ytolhfcpmhhhjpaa

namespace Go.Proofs.Ytolhfcpmhhhjpaa
open Go.RowKit Go.ChangeShapes

theorem Try.cellsByte : Try.prog.cellsOf 5 = 1 := by kernel_rfl

theorem open_bytes {H : Type} {enc : TypeId × Value → H} {W : World} {a : Option Addr} {n cap : Nat} {d : DataW H} {p : List MemPlace}
    (h : DataW.Trod enc Try.prog W 0 (fun _ => true) true 22 (.slice a n cap) d p) : n ≤ cap ∧ cap ≤ maxLen ∧ BytA W a n := by
  obtain ⟨fuel, hf⟩ := h
  rcases open_ints Try.underlying22 Try.underlying5 Try.cellsByte hf with ⟨hcs, hx⟩ | ⟨ad, len', cap', zs, hcs, _, hl, hm, hz, hx, hcell, hwz⟩
  · simp [Value.cells] at hcs
    obtain ⟨rfl, rfl, rfl⟩ := hcs
    exact ⟨Nat.le_refl _, Nat.zero_le _, fun i hi => absurd hi (by omega)⟩
  · simp [Value.cells] at hcs
    obtain ⟨rfl, rfl, rfl⟩ := hcs
    simp only [if_true] at hz
    refine ⟨hl, hm, fun i hi => ?_⟩
    have hc := hcell i (by omega)
    have hi2 : i < zs.length := by omega
    have hw := hwz zs[i] (List.getElem_mem hi2)
    refine ⟨ad, zs[i], rfl, ?_, by rw [hc]; simp [List.getD, hi2], ?_⟩
    · have := World.block_lt_of_cell? _ _ hc
      rw [add_block] at this
      exact this
    · have e1 : IntKind.u8.min = 0 := by decide
      have e2 : IntKind.u8.max = 255 := by decide
      simp [Lit.wf] at hw
      omega
end Go.Proofs.Ytolhfcpmhhhjpaa
