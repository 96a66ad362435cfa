/- An argument of the laws' type Coercion, opened: whatever reads as one is a tree. -/
import Derived.Test.YtgiimijooabioaaCo
import Derived.Lib.SmallJoins
import Derived.Deep.Fields
import Derived.ProofKit
import Derived.OpenShut
import Derived.ChangeOld
namespace Go.Proofs.Ytgiimijooabioaa
open Go.ChangeShapes Go.WideShapes Go.ChangeAt Go.RowKit Go.Deep

theorem Try.cellsCo : Try.prog.cellsOf 34 = 4 := by kernel_rfl
theorem Try.cellsIntC : Try.prog.cellsOf 3 = 1 := by kernel_rfl
theorem Try.cellsSlC : Try.prog.cellsOf 32 = 1 := by kernel_rfl

section
variable {H : Type} {enc : TypeId × Value → H} {w : World} {base : Nat} {sp : Nat → Bool} {hd : Bool}

theorem atCL_of {b : Nat} : ∀ (n o : Nat), (∀ i, i < n → ∃ v0 v1 v2 v3 t f, w.cell? ⟨b, o + i * 4, none⟩ = some v0 ∧ w.cell? ⟨b, o + i * 4 + 1, none⟩ = some v1 ∧ w.cell? ⟨b, o + i * 4 + 2, none⟩ = some v2 ∧ w.cell? ⟨b, o + i * 4 + 3, none⟩ = some v3 ∧ Co.At w t (.agg #[v0, v1, v2, v3]) f) →
    ∃ ts fp, ts.length = n ∧ Co.AtL w ts b o fp
  | 0, o, _ => ⟨[], [], rfl, by simp only [Co.AtL]⟩
  | n + 1, o, h => by
    obtain ⟨v0, v1, v2, v3, t, f, c0, c1, c2, c3, ht⟩ := h 0 (by omega)
    obtain ⟨ts, fp, hn, hl⟩ := atCL_of n (o + 4) (fun i hi => by
      have := h (i + 1) (by omega)
      rw [show o + (i + 1) * 4 = o + 4 + i * 4 by omega] at this
      exact this)
    exact ⟨t :: ts, f ++ fp, by simp [hn], v0, v1, v2, v3, f, fp, by simpa using c0, by simpa using c1, by simpa using c2, by simpa using c3, ht, hl, rfl⟩

set_option maxRecDepth 100000 in
theorem open_co : ∀ (fuel : Nat) (cs : List Value) (x : DataW H × List MemPlace), DataW.trod enc Try.prog w base sp hd fuel 34 cs = some x → ∃ (t : Co) (fp : List Nat), Co.At w t (.agg cs.toArray) fp := by
  intro fuel
  induction fuel using Nat.strongRecOn with
  | _ fuel ih =>
    intro cs x h
    obtain ⟨xs, n, rfl, hx, hl, hlen, hf⟩ := DataW.trod_struct Try.underlying34 h
    rw [Try.cellsCo] at hl
    match xs, hlen, cs, hl with
    | [y0, y1, y2, y3], _, [c0, c1, c2, c3], _ =>
      have g0 := hf 0 _ rfl
      have g1 := hf 1 _ rfl
      have g2 := hf 2 _ rfl
      have g3 := hf 3 _ rfl
      simp [Try.cellsIntC, Try.cellsSlC] at g0 g1 g2 g3
      obtain ⟨k, hk, _, _⟩ := DataW.trod_int Try.underlying3 g0
      simp at hk
      subst hk
      obtain ⟨g, hg, _, _⟩ := DataW.trod_int Try.underlying3 g1
      simp at hg
      subst hg
      obtain ⟨l, hl, _, _⟩ := DataW.trod_int Try.underlying3 g2
      simp at hl
      subst hl
      rcases DataW.trod_slice Try.underlying32 g3 with ⟨hc, _⟩ | ⟨a, len, cap, elems, rest, m, rfl, hc, _, hb, hle, hm, hel, hi, _⟩
      · simp at hc
        subst hc
        exact ⟨.mk k g l [], [], Co.at_mk.2 ⟨_, rfl, .inl ⟨rfl, rfl, _, _, rfl⟩⟩⟩
      · simp at hc
        subst hc
        by_cases h0 : len = 0
        · subst h0
          exact ⟨.mk k g l [], [], Co.at_mk.2 ⟨_, rfl, .inl ⟨rfl, rfl, _, _, rfl⟩⟩⟩
        rw [Try.cellsCo] at hi
        have hel' : ∀ i, i < len → ∃ v0 v1 v2 v3 t f, w.cell? (a.add (i * 4)) = some v0 ∧ w.cell? ((a.add (i * 4)).add 1) = some v1 ∧ w.cell? ((a.add (i * 4)).add 2) = some v2 ∧ w.cell? ((a.add (i * 4)).add 3) = some v3 ∧ Co.At w t (.agg #[v0, v1, v2, v3]) f := by
          intro i hil
          have h2 := hi i hil
          rw [List.getElem?_eq_getElem (by omega)] at h2
          obtain ⟨cs', h3, h4⟩ := Option.bind_eq_some_iff.1 h2
          obtain ⟨_, hl', hc'⟩ := World.cells?_some h3
          obtain ⟨t, f, hat⟩ := ih m (by omega) _ _ h4
          match cs', hl' with
          | [v0, v1, v2, v3], _ =>
            have e0 := hc' 0 (by omega)
            have e1 := hc' 1 (by omega)
            have e2 := hc' 2 (by omega)
            have e3 := hc' 3 (by omega)
            simp [Addr.add] at e0
            exact ⟨v0, v1, v2, v3, t, f, by simpa [Addr.add] using e0, by simpa using e1, by simpa using e2, by simpa using e3, hat⟩
        obtain ⟨b, off, spot⟩ := a
        obtain ⟨v0, _, _, _, _, _, e0, _⟩ := hel' 0 (by omega)
        have hspot : spot = none := by simpa [Addr.add] using World.cell?_spot e0
        subst hspot
        obtain ⟨ts, fp, hn, hl⟩ := atCL_of (w := w) (b := b) len off (fun i hil => by
          obtain ⟨v0, v1, v2, v3, t, f, d0, d1, d2, d3, hat⟩ := hel' i hil
          refine ⟨v0, v1, v2, v3, t, f, ?_, ?_, ?_, ?_, hat⟩
          · simpa [add_plain] using d0
          · simpa [add_plain] using d1
          · simpa [add_plain] using d2
          · simpa [add_plain] using d3)
        subst hn
        exact ⟨.mk k g l ts, b :: fp, Co.at_mk.2 ⟨_, rfl, .inr ⟨b, off, cap, fp, rfl, by omega, hle, Nat.le_trans hle hm, hl, rfl⟩⟩⟩
end
end Go.Proofs.Ytgiimijooabioaa
