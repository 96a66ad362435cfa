/- An argument that is a list of the laws' type Type, opened. -/
import Derived.Test.YtdehhobpfaaboaaDoorOpen
namespace Go.Proofs.YtdehhobpfaaboaaDoor
open Go.ChangeShapes Go.WideShapes Go.ChangeAt Go.RowKit Go.Deep

section
variable {H : Type} {enc : TypeId × Value → H} {w : World} {base : Nat} {sp : Nat → Bool} {hd : Bool}

set_option maxRecDepth 100000 in
theorem open_tys {fuel : Nat} {v : Value} {x : DataW H × List MemPlace} (h : DataW.trod enc Tryd.prog w base sp hd fuel 22 [v] = some x) : ∃ (ts : List Ty) (fp : List Nat), SlAt w ts v fp := by
  rcases DataW.trod_slice Tryd.underlying22 h with ⟨hc, _⟩ | ⟨a, len, cap, elems, rest, m, rfl, hc, _, hb, hle, hm, hel, hi, _⟩
  · simp at hc
    subst hc
    exact ⟨[], [], .inl ⟨rfl, rfl, _, _, rfl⟩⟩
  · simp at hc
    subst hc
    by_cases h0 : len = 0
    · subst h0
      exact ⟨[], [], .inl ⟨rfl, rfl, _, _, rfl⟩⟩
    rw [Tryd.cellsTy] at hi
    have hel' : ∀ i, i < len → ∃ v0 v1 t f, w.cell? (a.add (i * 2)) = some v0 ∧ w.cell? ((a.add (i * 2)).add 1) = some v1 ∧ Ty.At w t (.agg #[v0, v1]) f := by
      intro i hil
      have h2 := hi i hil
      rw [List.getElem?_eq_getElem (by omega)] at h2
      obtain ⟨cs', h3, h4⟩ := Option.bind_eq_some_iff.1 h2
      obtain ⟨_, hl', hc'⟩ := World.cells?_some h3
      obtain ⟨t, f, hat⟩ := open_ty _ _ _ h4
      match cs', hl' with
      | [v0, v1], _ =>
        have e0 := hc' 0 (by omega)
        have e1 := hc' 1 (by omega)
        simp [Addr.add] at e0
        exact ⟨v0, v1, t, f, by simpa [Addr.add] using e0, by simpa using e1, hat⟩
    obtain ⟨b, off, spot⟩ := a
    obtain ⟨v0, _, _, _, e0, _⟩ := hel' 0 (by omega)
    have hspot : spot = none := by simpa [Addr.add] using World.cell?_spot e0
    subst hspot
    obtain ⟨ts, fp, hn, hl⟩ := atL_of (w := w) (b := b) len off (fun i hil => by
      obtain ⟨v0, v1, t, f, d0, d1, hat⟩ := hel' i hil
      refine ⟨v0, v1, t, f, ?_, ?_, hat⟩
      · simpa [add_plain] using d0
      · simpa [add_plain] using d1)
    subst hn
    exact ⟨ts, b :: fp, .inr ⟨b, off, cap, fp, rfl, by omega, hle, Nat.le_trans hle hm, hl, rfl⟩⟩
end
end Go.Proofs.YtdehhobpfaaboaaDoor
