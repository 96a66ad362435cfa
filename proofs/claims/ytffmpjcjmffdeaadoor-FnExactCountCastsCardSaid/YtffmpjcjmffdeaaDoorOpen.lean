/- An argument of the laws' type Type, opened: whatever reads as one is a tree. -/
import Derived.Test.YtffmpjcjmffdeaaDoorPkA
import Derived.Lib.SmallJoins
import Derived.Deep.Fields
import Derived.ProofKit
import Derived.OpenShut
import Derived.ChangeOld
namespace Go.Proofs.YtffmpjcjmffdeaaDoor
open Go.ChangeShapes Go.WideShapes Go.ChangeAt Go.RowKit Go.Deep

theorem Tryd.cellsTy : Tryd.prog.cellsOf 24 = 2 := by kernel_rfl
theorem Tryd.cellsInt : Tryd.prog.cellsOf 3 = 1 := by kernel_rfl
theorem Tryd.cellsSl : Tryd.prog.cellsOf 22 = 1 := by kernel_rfl

section
variable {H : Type} {enc : TypeId × Value → H} {w : World} {base : Nat} {sp : Nat → Bool} {hd : Bool}

theorem atL_of {b : Nat} : ∀ (n o : Nat), (∀ i, i < n → ∃ v0 v1 t f, w.cell? ⟨b, o + i * 2, none⟩ = some v0 ∧ w.cell? ⟨b, o + i * 2 + 1, none⟩ = some v1 ∧ Ty.At w t (.agg #[v0, v1]) f) →
    ∃ ts fp, ts.length = n ∧ Ty.AtL w ts b o fp
  | 0, o, _ => ⟨[], [], rfl, by simp only [Ty.AtL]⟩
  | n + 1, o, h => by
    obtain ⟨v0, v1, t, f, c0, c1, ht⟩ := h 0 (by omega)
    obtain ⟨ts, fp, hn, hl⟩ := atL_of n (o + 2) (fun i hi => by
      have := h (i + 1) (by omega)
      rw [show o + (i + 1) * 2 = o + 2 + i * 2 by omega] at this
      exact this)
    exact ⟨t :: ts, f ++ fp, by simp [hn], v0, v1, f, fp, by simpa using c0, by simpa using c1, ht, hl, rfl⟩

set_option maxRecDepth 100000 in
theorem open_ty : ∀ (fuel : Nat) (cs : List Value) (x : DataW H × List MemPlace), DataW.trod enc Tryd.prog w base sp hd fuel 24 cs = some x → ∃ (t : Ty) (fp : List Nat), Ty.At w t (.agg cs.toArray) fp := by
  intro fuel
  induction fuel using Nat.strongRecOn with
  | _ fuel ih =>
    intro cs x h
    obtain ⟨xs, n, rfl, hx, hl, hlen, hf⟩ := DataW.trod_struct Tryd.underlying24 h
    rw [Tryd.cellsTy] at hl
    match xs, hlen, cs, hl with
    | [y0, y1], _, [c0, c1], _ =>
      have g0 := hf 0 _ rfl
      have g1 := hf 1 _ rfl
      simp [Tryd.cellsInt, Tryd.cellsSl] at g0 g1
      obtain ⟨k, hk, _, _⟩ := DataW.trod_int Tryd.underlying3 g0
      simp at hk
      subst hk
      rcases DataW.trod_slice Tryd.underlying22 g1 with ⟨hc, _⟩ | ⟨a, len, cap, elems, rest, m, rfl, hc, _, hb, hle, hm, hel, hi, _⟩
      · simp at hc
        subst hc
        exact ⟨.mk k [], [], Ty.at_mk.2 ⟨_, rfl, .inl ⟨rfl, rfl, _, _, rfl⟩⟩⟩
      · simp at hc
        subst hc
        by_cases h0 : len = 0
        · subst h0
          exact ⟨.mk k [], [], Ty.at_mk.2 ⟨_, rfl, .inl ⟨rfl, rfl, _, _, rfl⟩⟩⟩
        rw [Tryd.cellsTy] at hi
        have hel' : ∀ i, i < len → ∃ v0 v1 t f, w.cell? (a.add (i * 2)) = some v0 ∧ w.cell? ((a.add (i * 2)).add 1) = some v1 ∧ Ty.At w t (.agg #[v0, v1]) f := by
          intro i hil
          have h2 := hi i hil
          rw [List.getElem?_eq_getElem (by omega)] at h2
          obtain ⟨cs', h3, h4⟩ := Option.bind_eq_some_iff.1 h2
          obtain ⟨_, hl', hc'⟩ := World.cells?_some h3
          obtain ⟨t, f, hat⟩ := ih m (by omega) _ _ h4
          match cs', hl' with
          | [v0, v1], _ =>
            have e0 := hc' 0 (by omega)
            have e1 := hc' 1 (by omega)
            simp [Addr.add] at e0
            exact ⟨v0, v1, t, f, by simpa [Addr.add] using e0, by simpa using e1, hat⟩
        obtain ⟨b, off, spot⟩ := a
        obtain ⟨v0, _, _, _, e0, _⟩ := hel' 0 (by omega)
        have hspot : spot = none := by simpa [Addr.add] using World.cell?_spot e0
        subst hspot
        obtain ⟨ts, fp, hn, hl⟩ := atL_of (w := w) (b := b) len off (fun i hil => by
          obtain ⟨v0, v1, t, f, d0, d1, hat⟩ := hel' i hil
          refine ⟨v0, v1, t, f, ?_, ?_, hat⟩
          · simpa [add_plain] using d0
          · simpa [add_plain] using d1)
        subst hn
        exact ⟨.mk k ts, b :: fp, Ty.at_mk.2 ⟨_, rfl, .inr ⟨b, off, cap, fp, rfl, by omega, hle, Nat.le_trans hle hm, hl, rfl⟩⟩⟩
end
end Go.Proofs.YtffmpjcjmffdeaaDoor
