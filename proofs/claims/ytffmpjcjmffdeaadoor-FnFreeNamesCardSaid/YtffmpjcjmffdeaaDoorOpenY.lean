/- An argument of bytes, opened. -/
import Derived.Test.YtffmpjcjmffdeaaDoorDrO
import Derived.Lib.SmallJoins
import Derived.Deep.Fields
import Derived.ProofKit
import Derived.OpenShut
import Derived.ChangeOld
namespace Go.Proofs.YtffmpjcjmffdeaaDoor
open Go.RowKit Go.ChangeShapes

theorem Tryd.cellsByte : Tryd.prog.cellsOf 5 = 1 := by kernel_rfl

theorem open_bytes {H : Type} {enc : TypeId × Value → H} {W : World} {a : Option Addr} {n cap : Nat} {d : DataW H} {p : List MemPlace}
    (h : DataW.Trod enc Tryd.prog W 0 (fun _ => true) true 55 (.slice a n cap) d p) : n ≤ cap ∧ cap ≤ maxLen ∧ BytA W a n := by
  obtain ⟨fuel, hf⟩ := h
  rcases open_ints Tryd.underlying55 Tryd.underlying5 Tryd.cellsByte hf with ⟨hcs, hx⟩ | ⟨ad, len', cap', zs, hcs, _, hl, hm, hz, hx, hcell, hwz⟩
  · simp [Value.cells] at hcs
    obtain ⟨rfl, rfl, rfl⟩ := hcs
    exact ⟨Nat.le_refl _, Nat.zero_le _, fun i hi => absurd hi (by omega)⟩
  · simp [Value.cells] at hcs
    obtain ⟨rfl, rfl, rfl⟩ := hcs
    simp only [if_true] at hz
    refine ⟨hl, hm, fun i hi => ?_⟩
    have hc := hcell i (by omega)
    have hi2 : i < zs.length := by omega
    have hw := hwz zs[i] (List.getElem_mem hi2)
    refine ⟨ad, zs[i], rfl, ?_, by rw [hc]; simp [List.getD, hi2], ?_⟩
    · have := World.block_lt_of_cell? _ _ hc
      rw [add_block] at this
      exact this
    · have e1 : IntKind.u8.min = 0 := by decide
      have e2 : IntKind.u8.max = 255 := by decide
      simp [Lit.wf] at hw
      omega
end Go.Proofs.YtffmpjcjmffdeaaDoor
